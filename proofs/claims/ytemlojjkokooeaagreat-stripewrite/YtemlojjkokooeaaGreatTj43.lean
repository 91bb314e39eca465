import Derived.Test.YtemlojjkokooeaaGreatTj42
set_option maxHeartbeats 8000000
set_option maxRecDepth 100000
namespace Go.Proofs.YtemlojjkokooeaaGreat
open Go.RowKit
theorem preg (w1 : World) (k r c q ver : Int) (kd : UInt8) (N g0 lb lf n cl i m : Nat) (hi : (0 : Int) <= (i : Int)) (hi2 : (i : Int) < (n : Int)) (a0 : Option Addr) (c0 : Nat) (x0 x1 x2 x4 x6 x8 x9 x10 x11 x12 x13 x14 x16 x18 x19 x20 x21 x22 x23 x24 x25 x26 x27 x28 x29 x30 x31 x32 x33 x34 x35 x36 x37 x38 x39 x40 x41 x42 x43 x44 x45 x46 x47 x48 x49 : Value)
  (HS : Hid (∀ v, Below w1.heap.size w1 v -> (v.cell? ⟨g0, 0, none⟩ = some (.int .i64 k) /\ v.cell? ⟨g0, 1, none⟩ = some (.int .i64 r) /\ v.cell? ⟨g0, 2, none⟩ = some (.int .i64 c) /\ v.cell? ⟨g0, 3, none⟩ = some (.int .i64 q) /\ v.cell? ⟨lb, lf + i, none⟩ = some (.slice a0 m c0))))
  (HP1 : Hid (∀ v, Below w1.heap.size w1 v -> Calls Tryz.prog 153 #[.agg #[.int .i64 k, .int .i64 r, .int .i64 c, .int .i64 q], .int .i64 ver] v fun e w' => ∃ vo vc, e = .returned (.slice vo N vc) /\ Own v.heap.size w' vo N vc (fun _ => ver) /\ Below v.heap.size v w'))
  (Q : Exit -> Act -> World -> Prop) (HQ : Hid (∀ v g vo vc, Below w1.heap.size w1 v -> At w1 v g #[.int .u8 ((kd.toNat : Nat) : Int), .int .i64 (i : Int), .int .i64 ver, .int .i64 ver, .slice vo N vc, .slice a0 m c0] 107 -> Own w1.heap.size v vo N vc (fun _ => ver) -> Q .normal { tmps := #[x0, x1, x2, .int .u8 ((kd.toNat : Nat) : Int), x4, .int .i64 ver, x6, .pointer (some ⟨g0, 0, none⟩), x8, x9, x10, x11, x12, x13, x14, .slice (some ⟨lb, lf, none⟩) n cl, x16, .int .i64 (i : Int), .pointer (some ⟨g, 0, none⟩), x19, x20, x21, x22, x23, x24, x25, x26, x27, .int .u8 ((kd.toNat : Nat) : Int), .int .i64 (i : Int), .int .i64 ver, .int .i64 ver, .agg #[.int .i64 k, .int .i64 r, .int .i64 c, .int .i64 q], .int .i64 ver, .slice vo N vc, .slice (some ⟨lb, lf, none⟩) n cl, .int .i64 (i : Int), .pointer (some ⟨lb, lf + i, none⟩), .slice a0 m c0, .agg #[.int .u8 ((kd.toNat : Nat) : Int), .int .i64 (i : Int), .int .i64 ver, .int .i64 ver, .slice vo N vc, .slice a0 m c0], x40, x41, x42, x43, x44, x45, x46, x47, x48, x49], defers := [] } v)) :
  Code.wp Tryz.prog (Code.region 6 #[{ dst := some 28, op := .move (.tmp 3), type := 5, pos := "ref.go:181", after := #[], guard := none }, { dst := some 29, op := .move (.tmp 17), type := 3, pos := "ref.go:181", after := #[], guard := none }, { dst := some 30, op := .move (.tmp 5), type := 3, pos := "ref.go:181", after := #[], guard := none }, { dst := some 31, op := .move (.tmp 5), type := 3, pos := "ref.go:181", after := #[], guard := none }, { dst := some 32, op := .load 23 (.tmp 7), type := 23, pos := "ref.go:181", after := #[], guard := none }, { dst := some 33, op := .move (.tmp 5), type := 3, pos := "ref.go:181", after := #[], guard := none }, { dst := some 34, op := .call { callee := .value (.func 153), args := #[.tmp 32, .tmp 33], argTypes := #[23, 3] }, type := 27, pos := "ref.go:181", after := #[{ on := 4, ground := .data }, { on := 5, ground := .data }], guard := none }, { dst := some 35, op := .move (.tmp 15), type := 33, pos := "ref.go:181", after := #[], guard := none }, { dst := some 36, op := .move (.tmp 17), type := 3, pos := "ref.go:181", after := #[], guard := none }, { dst := some 37, op := .indexAddr 33 (.tmp 35) (.tmp 36), type := 0, pos := "ref.go:181", after := #[{ on := 7, ground := .data }, { on := 8, ground := .data }], guard := none }, { dst := some 38, op := .load 36 (.tmp 37), type := 36, pos := "ref.go:181", after := #[{ on := 9, ground := .data }], guard := none }, { dst := some 39, op := .build 107 #[(0, .tmp 28), (1, .tmp 29), (2, .tmp 30), (3, .tmp 31), (4, .tmp 34), (5, .tmp 38)], type := 107, pos := "ref.go:181", after := #[{ on := 0, ground := .data }, { on := 1, ground := .data }, { on := 2, ground := .data }, { on := 3, ground := .data }, { on := 6, ground := .data }, { on := 10, ground := .data }], guard := none }, { dst := some 18, op := .alloc 107, type := 0, pos := "ref.go:181", after := #[], guard := none }, { dst := none, op := .store 107 (.tmp 18) (.tmp 39), type := 0, pos := "ref.go:181", after := #[{ on := 12, ground := .data }, { on := 11, ground := .data }, { on := 6, ground := .chain }, { on := 0, ground := .phase }, { on := 1, ground := .phase }, { on := 2, ground := .phase }, { on := 3, ground := .phase }, { on := 4, ground := .phase }, { on := 5, ground := .phase }, { on := 6, ground := .phase }, { on := 7, ground := .phase }, { on := 8, ground := .phase }, { on := 9, ground := .phase }, { on := 10, ground := .phase }, { on := 11, ground := .phase }, { on := 12, ground := .phase }], guard := none }] true) Q { tmps := #[x0, x1, x2, .int .u8 ((kd.toNat : Nat) : Int), x4, .int .i64 ver, x6, .pointer (some ⟨g0, 0, none⟩), x8, x9, x10, x11, x12, x13, x14, .slice (some ⟨lb, lf, none⟩) n cl, x16, .int .i64 (i : Int), x18, x19, x20, x21, x22, x23, x24, x25, x26, x27, x28, x29, x30, x31, x32, x33, x34, x35, x36, x37, x38, x39, x40, x41, x42, x43, x44, x45, x46, x47, x48, x49], defers := [] } w1 := by
 obtain ⟨s0, s1, s2, s3, s4⟩ := HS.out w1 (Below.refl _ _)
 have hd0 : Below w1.heap.size w1 w1.drew := bdw _ _
 have hda : ∀ o, Below w1.heap.size w1 (w1.alloc o).drew := fun o => b_drew (b_alloc (Below.refl _ _) o)
 go_region_held3 (fun v => v.cell? ⟨g0, 0, none⟩ = some (.int .i64 k) /\ v.cell? ⟨g0, 1, none⟩ = some (.int .i64 r) /\ v.cell? ⟨g0, 2, none⟩ = some (.int .i64 c) /\ v.cell? ⟨g0, 3, none⟩ = some (.int .i64 q) /\ v.cell? ⟨lb, lf + i, none⟩ = some (.slice a0 m c0)) ((refine HS.out _ ?_; first | with_reducible exact hd0 | with_reducible exact hda _ | with_reducible exact hb' | with_reducible exact b_alloc hb' _ | with_reducible exact below_six hb' hgg _ _ _ _ _ _ | with_reducible exact below_six (b_alloc hb' _) hb'.size _ _ _ _ _ _)) ((first
  | (go_at_call 153; refine (HP1.out _ (hda _)).mono ?_; rintro e w' ⟨vo, vc, rfl, hv, hw'⟩; have hb' := bth (hda _) hw'; have hat : At w1 w' w1.heap.size #[.int .u8 0, .int .i64 0, .int .i64 0, .int .i64 0, .slice none 0 0, .slice none 0 0] 107 := (at_new (a := w1) (Below.refl _ _) _ 107).drew.below hw'; have hgg := hat.1; have c0 := hat.cell (i := 0) rfl; have c1 := hat.cell (i := 1) rfl; have c2 := hat.cell (i := 2) rfl; have c3 := hat.cell (i := 3) rfl; have c4 := hat.cell (i := 4) rfl; have c5 := hat.cell (i := 5) rfl; have cf := hat.free; clear hw')
  | (go_at_call 153; refine (HP1.out _ hd0).mono ?_; rintro e w' ⟨vo, vc, rfl, hv, hw'⟩; have hb' := bth hd0 hw'; clear hw')))
 ·refine HQ.out _ _ vo vc ?_ ?_ ?_
  ·exact b_alloc hb' _
  ·exact at_new hb' _ _
  ·exact Own.below hv (bal _ _)
 ·refine HQ.out _ _ vo vc ?_ ?_ ?_
  ·exact below_six hb' hgg _ _ _ _ _ _
  ·exact at_six hat _ _ _ _ _ _
  ·refine Own.mono (B := (w1.alloc (.cells #[.int .u8 0, .int .i64 0, .int .i64 0, .int .i64 0, .slice none 0 0, .slice none 0 0] 107)).heap.size) (Own.stay hv fun x hx hl => ?_) (by simp)
   exact (only_six w' w1.heap.size _ _ _ _ _ _).block x hl (fun e => by have h9 : (w1.alloc _).heap.size <= x := hx; simp at h9; omega)
theorem owns_grown8 {w w' : World} {B B' e s n cap k ca : Nat} {ao lo : Option Addr} {xs ys : List Value} (h : w.ownsRow B e s (.slice ao n cap) n xs) (hk : w.ownsRow B' 56 4 (.slice lo k ca) k ys) (he : e ≠ 56) (hg : w.grownBy w' (Value.slice lo k ca).ownBlock) : w'.ownsRow B e s (.slice ao n cap) n xs :=
 owns_blocks h fun a ha => by
  obtain ⟨_, hl, cur, hc⟩ := owns_at h ha
  refine hg.block _ hl fun e1 => ?_
  cases lo with
  | none => cases e1
  | some l =>
   obtain ⟨_, _, cur', hc'⟩ := owns_at hk rfl
   have e2 : a.block = l.block := by simpa [Value.ownBlock] using e1
   rw [e2, hc'] at hc
   cases hc
   exact he rfl
def AnsPu (w : World) (N m : Nat) (os : Nat -> Nat) (nu : Int) (n : Nat) (G : Nat -> Nat -> UInt8) (e : Ending) (w' : World) : Prop :=
  ∃ ao cap T U, e = .returned (.slice ao N cap) /\ PL w.heap.size w' ao N cap N (fun _ => m) os nu n T U G /\ Below w.heap.size w w'
theorem RPuts_any {k r c q : Int} {N W : Nat} (h : Par k r c q N W 0) (w : World) (ro : Option Addr) (rc : Nat) (A : Nat -> Option Addr) (L C : Nat -> Nat) (F : Nat -> Nat -> UInt8) (hr : Rw w ro N A L C F) (hL : ∀ j, j < 2 * N -> L j = 0 \/ L j = sz N c) (nu : Int) (kd : UInt8) (hk : kd = 1 \/ kd = 2) (ke v : Int) (hv : 1 <= v /\ v <= 1073741824) (hk0 : ke <= 0 -> (tS (yy N c L F) kd ke (2 * N)).vn = 0) (dob : Option Addr) (dc : Nat) (D : Nat -> UInt8) (hD : Bec w dob W dc D) :
    Calls Tryz.prog 86 #[.agg #[.int .i64 k, .int .i64 r, .int .i64 c, .int .i64 q], .slice ro N rc, .int .i64 nu, .int .u8 ((kd.toNat : Nat) : Int), .int .i64 ke, .int .i64 v, .slice dob W dc] w (AnsPu w N c.toNat (osl N c L F kd ke) nu (sz N c) (fun i => enc (slC kd N (fun _ => v) c.toNat (dH k.toNat c.toNat D i) i))) := by
  have hle := h.le
  obtain ⟨c1, c2⟩ := h.cell rfl
  obtain ⟨k1, k2, r1, r2, hKW, hN, h32⟩ : 1 <= k /\ k <= 12 /\ 0 <= r /\ r <= 4 /\ (W : Int) = k * c /\ (N : Int) = k + r /\ 32 <= W := by
    rcases h with ⟨hm, hW, hN, _⟩ | ⟨_, _, _, h0⟩
    · obtain ⟨h1, h2, h3, h4, h5, h6, h7, h8, h9⟩ := may_true hm; exact ⟨h1, h2, h3, h4, hW, hN, by omega⟩
    · exact absurd h0 (by decide)
  obtain ⟨K, rfl⟩ := Int.eq_ofNat_of_zero_le (show 0 <= k by omega)
  obtain ⟨R, rfl⟩ := Int.eq_ofNat_of_zero_le r1
  obtain ⟨m, rfl⟩ := Int.eq_ofNat_of_zero_le (show 0 <= c by omega)
  simp only [Int.toNat_natCast]
  have hdn : W = K * m := by rw [<- Int.natCast_mul] at hKW; omega
  have hNN : N = K + R := by omega
  obtain ⟨b, off, rfl, hDc⟩ := hD.rd (show 0 < W by omega)
  have hst : mx (fun _ => v) N = v := mx_const hv.1 (by omega)
  have HCD : Hid (∀ u, Below w.heap.size w u -> Calls Tryz.prog 152 #[.agg #[.int .i64 (K : Int), .int .i64 (R : Int), .int .i64 (m : Int), .int .i64 q], .slice (some ⟨b, off, none⟩) W dc] u fun e w' => ∃ ao cap T U, e = .returned (.slice ao N cap) /\ RdC w' ao N T (fun _ => m) U /\ (∀ i, i < N -> Bec w' (T i) m (U i) (dH K m D i)) /\ Below u.heap.size u w') := fun u hu => by
    have := RCoded_any (R := R) q u b off W dc D (hD.below hu) (by omega) (by omega) (by omega) (by omega) (by omega) hdn (by omega)
    rw [<- hNN] at this
    exact this
  have HAL : Hid (∀ u, Calls Tryz.prog 153 #[.agg #[.int .i64 (K : Int), .int .i64 (R : Int), .int .i64 (m : Int), .int .i64 q], .int .i64 v] u fun e w' => ∃ vo vc, e = .returned (.slice vo N vc) /\ Own u.heap.size w' vo N vc (fun _ => v) /\ Below u.heap.size u w') := fun u => RAll_any h u v
  obtain ⟨n, hn⟩ : ∃ n, n = sz N (m : Int) := ⟨_, rfl⟩
  obtain ⟨os, hos⟩ : ∃ os, os = osl N (m : Int) L F kd ke := ⟨_, rfl⟩
  obtain ⟨G, hG⟩ : ∃ G, G = fun i => enc (slC kd N (fun _ => v) m (dH K m D i) i) := ⟨_, rfl⟩
  have HPU : Hid (∀ d, d < N -> ∀ u, Below w.heap.size w u -> ∀ vo vc bo cb, Vec u vo N vc (fun _ => v) -> Bec u bo m cb (dH K m D d) -> Calls Tryz.prog 154 #[.agg #[.int .i64 (K : Int), .int .i64 (R : Int), .int .i64 (m : Int), .int .i64 q], .slice ro N rc, .int .i64 nu, .int .i64 ke, .agg #[.int .u8 ((kd.toNat : Nat) : Int), .int .i64 (d : Int), .int .i64 v, .int .i64 v, .slice vo N vc, .slice bo m cb]] u fun e w' => ∃ uo uc, e = .returned (.agg #[.int .i64 (d : Int), .int .i64 nu, .int .i64 ((os d : Nat) : Int), .slice uo n uc]) /\ OwU u.heap.size w' uo n uc (G d) /\ Below u.heap.size u w') := fun d hd u hu vo vc bo cb h1 h2 => by
    have hok : okS N (m : Int) (slC kd N (fun _ => v) m (dH K m D d) d) = true := by
      have := (slC_ok (c := (m : Int)) (G := dH K m D d) hk (fun j (_ : j < N) => hv) hd (by omega)).ok
      rw [Int.toNat_natCast] at this
      exact this
    have := RPut_any h u ro rc A L C F (hr.below hu) hL nu ke (slC kd N (fun _ => v) m (dH K m D d) d) vo vc bo cb ⟨h1, h2⟩ hok d hd rfl _ rfl hk0
    rw [show (slC kd N (fun _ => v) m (dH K m D d) d).st = v from hst] at this
    rw [hn, hos, hG]
    exact this
  have hn0 : n <= 1000 := by rw [hn]; unfold sz; omega
  rw [<- hn, <- hos, <- hG]
  have hm0 : m ≠ 0 := by omega
  obtain ⟨j0, hj, hj0, hj1, hj2⟩ := info_parts info48
  obtain ⟨w0, hw0⟩ : ∃ w0, w0 = w.alloc (.cells #[.int .i64 (K : Int), .int .i64 (R : Int), .int .i64 (m : Int), .int .i64 q] 23) := ⟨_, rfl⟩
  have B0 : Hid (Below w.heap.size w w0) := by show Below _ _ _; rw [hw0]; exact bal _ _
  have L0 : Hid (∀ v, Below w0.heap.size w0 v -> At w v w.heap.size #[.int .i64 (K : Int), .int .i64 (R : Int), .int .i64 (m : Int), .int .i64 q] 23) := fun v hv => (at_made (Below.refl _ _) hw0).below hv
  have HM0 : Hid (m ≠ 0) := hm0
  clear h hr hL hk hv hk0 hD hDc hst hn hos hG hdn hNN hN hKW hm0 k1 k2 r1 r2 h32
  unfold AnsPu
  go_enter Tryz.func86, Tryz.ntmps86
  go_wp2_with fail
  rw [<- hw0]
  clear hw0
  refine (HCD.out _ B0.out).mono ?_
  rintro e wc ⟨lo, cl, Tc, Uc, rfl, hl, hb, hwc⟩
  have HRD : Hid (RdC wc lo N Tc (fun _ => m) Uc) := hl
  have HBE : Hid (∀ i, i < N -> Bec wc (Tc i) m (Uc i) (dH K m D i)) := hb
  have HBC : Hid (Below w0.heap.size w0 wc) := hwc
  clear hl hb hwc HCD
  go_wp2_with fail
  go_loopw [16, 17] (fun y x wr => ∃ i : Nat, i <= N /\ x = .int .i64 (i : Int) /\ (∃ ao cp, y = .slice ao i cp /\ Hid (∃ T U, wr.ownsRow wc.heap.size 56 4 (.slice ao i cp) i (ptl (fun _ => m) os nu n T U i) /\ ∀ l, l < i -> OwU wc.heap.size wr (T l) n (U l) (G l))) /\ Hid (Below wc.heap.size wc wr)) (fun _ x _ => N - (intOf x).toNat)
  case atStart => exact ⟨0, Nat.zero_le _, rfl, ⟨none, 0, rfl, fun _ => none, fun _ => 0, World.ownsRow_nil _ _ _ _, fun l hl => absurd hl (Nat.not_lt_zero l)⟩, Below.refl _ _⟩
  case round =>
    obtain ⟨i, hi, rfl, ⟨ao, cp, rfl, hcs⟩, hbel⟩ := hrel
    by_cases hlt : i < N
    · obtain ⟨lb, lf, rfl, hcc⟩ := HRD.out (by omega)
      have i1 : (0 : Int) <= (i : Int) := by omega
      have i2 : (i : Int) < (N : Int) := by omega
      have HPC : Hid (∀ u, Below wr.heap.size wr u -> (u.cell? ⟨w.heap.size, 0, none⟩ = some (.int .i64 (K : Int)) /\ u.cell? ⟨w.heap.size, 1, none⟩ = some (.int .i64 (R : Int)) /\ u.cell? ⟨w.heap.size, 2, none⟩ = some (.int .i64 (m : Int)) /\ u.cell? ⟨w.heap.size, 3, none⟩ = some (.int .i64 q)) /\ u.cell? ⟨lb, lf + i, none⟩ = some (.slice (Tc i) m (Uc i))) := fun u hu => by
        have p := L0.out u (bth HBC.out (bth hbel.out hu))
        exact ⟨⟨p.cell (i := 0) rfl, p.cell (i := 1) rfl, p.cell (i := 2) rfl, p.cell (i := 3) rfl⟩, held (hcc i hlt) (bth hbel.out hu)⟩
      have CHH : Hid (∀ u, Below wr.heap.size wr u -> (u.cell? ⟨w.heap.size, 0, none⟩ = some (.int .i64 (K : Int)) /\ u.cell? ⟨w.heap.size, 1, none⟩ = some (.int .i64 (R : Int)) /\ u.cell? ⟨w.heap.size, 2, none⟩ = some (.int .i64 (m : Int)) /\ u.cell? ⟨w.heap.size, 3, none⟩ = some (.int .i64 q) /\ u.cell? ⟨lb, lf + i, none⟩ = some (.slice (Tc i) m (Uc i)))) := fun u hu => by
        obtain ⟨⟨a0, a1, a2, a3⟩, a4⟩ := HPC.out u hu
        exact ⟨a0, a1, a2, a3, a4⟩
      have hAL := fun u (_ : Below wr.heap.size wr u) => HAL.out u
      have HPI := HPU.out i hlt
      have HBI : Hid (Bec wc (Tc i) m (Uc i) (dH K m D i)) := HBE.out i hlt
      clear hcc
      go_wp2_with fail
      refine preg wr (K : Int) (R : Int) (m : Int) q v kd N w.heap.size lb lf N cl i m i1 i2 (Tc i) (Uc i) _ _ _ _ _ _ _ _ _ _ _ _ _ _ _ _ _ _ _ _ _ _ _ _ _ _ _ _ _ _ _ _ _ _ _ _ _ _ _ _ _ _ _ _ _ CHH hAL _ (fun v' g vo vc hb3 hat hown => ?_)
      have d0 := hat.cell (i := 0) rfl
      have d1 := hat.cell (i := 1) rfl
      have d2 := hat.cell (i := 2) rfl
      have d3 := hat.cell (i := 3) rfl
      have d4 := hat.cell (i := 4) rfl
      have d5 := hat.cell (i := 5) rfl
      obtain ⟨⟨a0, a1, a2, a3⟩, _⟩ := HPC.out v' hb3
      have HP6 := HPI v' (bth B0.out (bth HBC.out (bth hbel.out hb3))) vo vc (Tc i) (Uc i) hown.vec (HBI.out.below (bth hbel.out hb3))
      have HB3 : Hid (Below wr.heap.size wr v') := hb3
      clear hat hown hb3 hAL HPI
      go_wp2_with fail
      refine HP6.mono ?_
      clear HP6 d0 d1 d2 d3 d4 d5 a0 a1 a2 a3
      rintro e w6 ⟨uo, uc, rfl, hou, h6⟩
      have HB6 : Hid (Below wr.heap.size wr w6) := bth HB3.out h6
      have HC6 : Hid (Below wc.heap.size wc w6) := bth hbel.out HB6.out
      have HS6 : Hid (wc.heap.size <= v'.heap.size) := (bth hbel.out HB3.out).size
      have HOU : Hid (OwU v'.heap.size w6 uo n uc (G i)) := hou
      obtain ⟨T, U, ho, hrow⟩ := hcs.out
      have HTR : Hid (∀ l, l < i -> OwU wc.heap.size w6 (T l) n (U l) (G l)) := fun l hl => (hrow l hl).below HB6.out
      obtain ⟨xs, hxs⟩ : ∃ xs, xs = ptl (fun _ => m) os nu n T U i := ⟨_, rfl⟩
      have HOW : Hid (∀ o, (w6.alloc o).ownsRow wc.heap.size 56 4 (.slice ao i cp) i xs) := fun o => by rw [hxs]; exact owns_below (owns_below ho HB6.out) (bal _ _)
      have HX : Hid (xs ++ [.int .i64 (i : Int), .int .i64 nu, .int .i64 ((os i : Nat) : Int), .slice uo n uc] = ptl (fun _ => m) os nu n (Cod.put i uo T) (Cod.put i uc U) (i + 1)) := by
        show _ = _
        rw [ptl, if_neg HM0.out, Cod.put_at, Cod.put_at, hxs]
        congr 1
        exact ptl_congr fun l hl => by rw [Cod.put_ne _ _ (by omega), Cod.put_ne _ _ (by omega)]; exact ⟨rfl, rfl⟩
      have hw6 := HC6.out.size
      clear hou h6 ho hrow hxs
      go_wp2_with (at_builtin; refine wpList_append_lies _ (by rfl) (.tmp 40) (.tmp 47) 43 (by rfl) wc.heap.size 56 j0 (.agg #[.int .i64 0, .int .i64 0, .int .i64 0, .slice none 0 0]) 4 48 Tryz.underlying43 hj hj0 hj1 hj2 (by rfl) (by decide) (.slice ao i cp) i xs (by rfl) (HOW.out _) ⟨w6.heap.size, 0, none⟩ 1 1 [.int .i64 (i : Int), .int .i64 nu, .int .i64 ((os i : Nat) : Int), .slice uo n uc] (by rfl) (by rfl) (World.news_of_block (heap_alloc_new w6 _)) (by simp [Value.oneCell']) (by decide) (by unfold maxLen; omega) (by omega) (by simp; omega) (w6.heap.size + 1) (by simp) ?_; intro g5 cap5 w5 hown5 hgrow5 _ _
                   have HO5 : Hid (w5.ownsRow wc.heap.size 56 4 (.slice (some ⟨g5, 0, none⟩) (i + 1) cap5) (i + 1) (ptl (fun _ => m) os nu n (Cod.put i uo T) (Cod.put i uc U) (i + 1))) := by rw [<- HX.out]; exact hown5
                   have HB5 : Hid (Below wc.heap.size wc w5) := (bth HC6.out (bal _ _)).grown hgrow5 (by simp; omega) (fun r hr => ((HOW.out (.cells #[] 3)).lt r hr).1)
                   have HR5 : Hid (∀ l, l < i + 1 -> OwU wc.heap.size w5 (Cod.put i uo T l) n (Cod.put i uc U l) (G l)) := fun l hl => by
                     by_cases e : l = i
                     · rw [e, Cod.put_at, Cod.put_at]
                       exact owns_grown8 (OwU.below (HOU.out.mono HS6.out) (bal _ _)) (HOW.out _) (by decide) hgrow5
                     · rw [Cod.put_ne _ _ e, Cod.put_ne _ _ e]
                       exact owns_grown8 (OwU.below (HTR.out l (by omega)) (bal _ _)) (HOW.out _) (by decide) hgrow5
                   clear hown5 hgrow5)
      go_roundw
      case rel => exact ⟨i + 1, by omega, by go_num, ⟨_, cap5, rfl, Cod.put i uo T, Cod.put i uc U, HO5.out, HR5.out⟩, HB5.out⟩
      case measure => simp [intOf]; omega
    · obtain rfl : i = N := by omega
      obtain ⟨T, U, ho, hrow⟩ := hcs.out
      have HBF : Hid (Below w.heap.size w wr) := bth B0.out (bth HBC.out hbel.out)
      have HSC : Hid (w.heap.size <= wc.heap.size) := (bth B0.out HBC.out).size
      have HPL : Hid (PL w.heap.size wr ao i cp i (fun _ => m) os nu n T U G) := ⟨owns_mono ho HSC.out, fun l hl _ => (hrow l hl).mono HSC.out⟩
      clear ho hrow hcs hbel
      go_wp2_with fail
      go_ret
      first
        | exact ⟨ao, cp, T, U, rfl, HPL.out, HBF.out⟩
        | exact ⟨ao, cp, ⟨T, U, rfl, HPL.out⟩, HBF.out⟩
        | exact ⟨ao, cp, rfl, ⟨T, U, HPL.out⟩, HBF.out⟩
def mis (z : Nat -> Sl) (m i : Nat) : Nat := if (z i).ce = 0 then m else 0
theorem mL_all {z : Nat -> Sl} {m N i : Nat} (hi : i < N) : mL z (fun _ => m) N i = mis z m i := by
 unfold mL mis
 by_cases e : (z i).ce = 0
 ·rw [if_neg (fun a => a.2 e), if_pos e]
 ·rw [if_pos ⟨hi, e⟩, if_neg e]
theorem cnt_ex {L : Nat -> Nat} {n : Nat} (h : 0 < Cod.cnt L n) : ∃ i, i < n /\ L i ≠ 0 := ⟨Cod.sel L n 0, (Cod.sel_is L n).lt 0 h, (Cod.sel_is L n).there 0 h⟩
end Go.Proofs.YtemlojjkokooeaaGreat
