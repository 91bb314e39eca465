/- Whether a version is above all that slots have; whether no pair holds one twice. -/
import Derived.Test.YtapflgfifppckaaStS
namespace Go.Proofs.Ytapflgfifppckaa
open Go.RowKit

/-- What slot number j is read as. -/
def zq (N : Nat) (c : Int) (L : Nat → Nat) (F : Nat → Nat → UInt8) (j : Nat) : Sl := slQ (isS N c (L j) (F j)) N c (F j)
def abB (N : Nat) (c : Int) (L : Nat → Nat) (F : Nat → Nat → UInt8) (v : Int) : Bool := decide (∀ j, j < 2 * N → isS N c (L j) (F j) = true → (zq N c L F j).st < v)
def twB (N : Nat) (c : Int) (L : Nat → Nat) (F : Nat → Nat → UInt8) (kd : UInt8) (i : Nat) : Prop := isS N c (L (2 * i)) (F (2 * i)) = true ∧ isS N c (L (2 * i + 1)) (F (2 * i + 1)) = true ∧ (zq N c L F (2 * i)).kd = kd ∧ (zq N c L F (2 * i + 1)).kd = kd ∧ (zq N c L F (2 * i)).ce = (zq N c L F (2 * i + 1)).ce
theorem yq {N : Nat} {c : Int} {L : Nat → Nat} {F : Nat → Nat → UInt8} (j : Nat) : yy N c L F j = zSl ∨ (isS N c (L j) (F j) = true ∧ yy N c L F j = zq N c L F j) := by
  rcases he_is N c ((j / 2 : Nat) : Int) (L j) (F j) with h | ⟨_, _, h, e⟩
  · exact .inl h
  · refine .inr ⟨h, e.trans ?_⟩
    unfold zq slQ; rw [h, if_pos rfl]
theorem above_st {N : Nat} {c : Int} {L : Nat → Nat} {F : Nat → Nat → UInt8} {v : Int} (h : abB N c L F v = true) (hv : 1 ≤ v) {j : Nat} (hj : j < 2 * N) : (yy N c L F j).st < v := by
  rcases yq (N := N) (c := c) (L := L) (F := F) j with e | ⟨e1, e2⟩
  · rw [e]; show (0 : Int) < v; omega
  · rw [e2]; exact of_decide_eq_true h j hj e1
theorem once_of {N : Nat} {c : Int} {L : Nat → Nat} {F : Nat → Nat → UInt8} {kd : UInt8} (hk : kd = 1 ∨ kd = 2) (h : ∀ i, i < N → ¬ twB N c L F kd i) : Once N kd (yy N c L F) := fun i hi e0 e1 e2 => by
  have nz : zSl.kd ≠ kd := by rcases hk with rfl | rfl <;> decide
  rcases yq (N := N) (c := c) (L := L) (F := F) (2 * i) with a | ⟨a1, a2⟩
  · rw [a] at e0; exact nz e0
  · rcases yq (N := N) (c := c) (L := L) (F := F) (2 * i + 1) with b | ⟨b1, b2⟩
    · rw [b] at e1; exact nz e1
    · rw [a2] at e0 e2; rw [b2] at e1 e2
      exact h i hi ⟨a1, b1, e0, e1, e2⟩
set_option maxHeartbeats 4000000 in
set_option maxRecDepth 100000 in
theorem above_any {k r c q : Int} {N W : Nat} (h : Par k r c q N W 0) (w : World) (ro : Option Addr) (rc : Nat) (A : Nat → Option Addr) (L C : Nat → Nat) (F : Nat → Nat → UInt8) (hr : Rw w ro N A L C F) (hL : ∀ j, j < 2 * N → L j = 0 ∨ L j = sz N c) (v : Int) :
    Calls Try.prog 8 #[.agg #[.int .i64 k, .int .i64 r, .int .i64 c, .int .i64 q], .slice ro N rc, .int .i64 v] w fun e w' => e = .returned (.bool (abB N c L F v)) ∧ Below w.heap.size w w' := by
  have hle := h.le
  obtain ⟨w0, hw0⟩ : ∃ w0, w0 = w.alloc (.cells #[.int .i64 k, .int .i64 r, .int .i64 c, .int .i64 q] 23) := ⟨_, rfl⟩
  have B0 : Hid (Below w.heap.size w w0) := by show Below _ _ _; rw [hw0]; exact below_alloc _ _
  have L0 : Hid (∀ v, Below w0.heap.size w0 v → At w v w.heap.size #[.int .i64 k, .int .i64 r, .int .i64 c, .int .i64 q] 23) := fun v hv => (at_made (Below.refl _ _) hw0).below hv
  have HR : Hid (Rw w ro N A L C F) := hr
  have HP : Hid (∀ j, j < 2 * N → ∀ u, Below w.heap.size w u → Calls Try.prog 21 #[.agg #[.int .i64 k, .int .i64 r, .int .i64 c, .int .i64 q], .slice (A j) (L j) (C j)] u fun e w' => ∃ ao ca bo cb, e = .returned (.tuple #[.agg #[.int .u8 (((zq N c L F j).kd.toNat : Nat) : Int), .int .i64 (zq N c L F j).ix, .int .i64 (zq N c L F j).ce, .int .i64 (zq N c L F j).st, .slice ao (zq N c L F j).vn ca, .slice bo (zq N c L F j).dn cb], .bool (isS N c (L j) (F j)), .int .i64 0]) ∧ Below u.heap.size u w') := fun j hj u hu => by
    refine (Parse_any h u _ _ _ _ ((hr.bec j hj).below hu) 0 (by unfold erQ; rw [if_pos rfl, if_pos (hL j hj)]) (isS N c (L j) (F j)) (by unfold isQ; simp) (zq N c L F j) rfl).mono ?_
    rintro e w' ⟨ao, ca, bo, cb, rfl, _, hb⟩
    exact ⟨ao, ca, bo, cb, rfl, hb⟩
  have HAB : Hid (abB N c L F v = decide (∀ j, j < 2 * N → isS N c (L j) (F j) = true → (zq N c L F j).st < v)) := rfl
  clear h hr hL
  go_enter Try.func8, Try.ntmps8
  go_wp2_with fail
  rw [← hw0]
  clear hw0
  go_loopw [7] (fun y wr => ∃ i : Nat, i ≤ N ∧ y = .int .i64 (i : Int) ∧ Hid (Below w0.heap.size w0 wr) ∧ Hid (∀ j, j < 2 * i → isS N c (L j) (F j) = true → (zq N c L F j).st < v)) (fun y _ => N - (intOf y).toNat)
  case atStart => exact ⟨0, Nat.zero_le _, rfl, Below.refl _ _, fun j hj => absurd hj (by omega)⟩
  case round =>
    obtain ⟨i, hi, rfl, hbw, hno⟩ := hrel
    by_cases hlt : i < N
    · obtain ⟨b, off, rfl, hcc⟩ := HR.out.at_ (by omega)
      have i1 : (0 : Int) ≤ (i : Int) := by omega
      have i2 : (i : Int) < (N : Int) := by omega
      have HCC : Hid (w.cell? ⟨b, off + i * 2, none⟩ = some (.slice (A (2 * i)) (L (2 * i)) (C (2 * i))) ∧ w.cell? ⟨b, off + i * 2 + 1, none⟩ = some (.slice (A (2 * i + 1)) (L (2 * i + 1)) (C (2 * i + 1)))) := hcc i hlt
      have HBW : Hid (Below w0.heap.size w0 wr) := hbw.out
      clear hcc
      go_wp2_with fail
      obtain ⟨wm, hwm⟩ : ∃ x, x = wr := ⟨wr, rfl⟩
      rw [← hwm] at HBW ⊢
      clear hwm hbw wr
      go_loopw [8] (fun y wr => ∃ s : Nat, s ≤ 2 ∧ y = .int .i64 (s : Int) ∧ Hid (Below w0.heap.size w0 wr) ∧ Hid (∀ j, j < 2 * i + s → isS N c (L j) (F j) = true → (zq N c L F j).st < v)) (fun y _ => 2 - (intOf y).toNat)
      case atStart => exact ⟨0, Nat.zero_le _, rfl, HBW.out, fun j hj => hno.out j (by omega)⟩
      case round =>
        obtain ⟨s, hs, rfl, hbs, hns⟩ := hrel
        by_cases hs2 : s < 2
        · have CHH : Hid (∀ v, Below wr.heap.size wr v → (v.cell? ⟨w.heap.size, 0, none⟩ = some (.int .i64 k) ∧ v.cell? ⟨w.heap.size, 1, none⟩ = some (.int .i64 r) ∧ v.cell? ⟨w.heap.size, 2, none⟩ = some (.int .i64 c) ∧ v.cell? ⟨w.heap.size, 3, none⟩ = some (.int .i64 q) ∧ v.cell? ⟨b, off + i * 2 + s, none⟩ = some (.slice (A (2 * i + s)) (L (2 * i + s)) (C (2 * i + s))))) := fun v hv => by
            have p := L0.out v (below_then hbs.out hv)
            refine ⟨p.cell (i := 0) rfl, p.cell (i := 1) rfl, p.cell (i := 2) rfl, p.cell (i := 3) rfl, ?_⟩
            refine held ?_ (below_then (below_then B0.out hbs.out) hv)
            rcases (show s = 0 ∨ s = 1 by omega) with rfl | rfl
            · exact HCC.out.1
            · exact HCC.out.2
          have j1 : (s : Int) < 2 := by omega
          have hP := fun u (hu : Below wr.heap.size wr u) => HP.out (2 * i + s) (by omega) u (below_then (below_then B0.out hbs.out) hu)
          go_wp2_with fail
          refine wp_region_noPanic (above_reg wr k r c q w.heap.size b off N rc i s hs2 i1 i2 (A (2 * i + s)) (L (2 * i + s)) (C (2 * i + s)) (zq N c L F (2 * i + s)) (isS N c (L (2 * i + s)) (F (2 * i + s))) _ _ _ _ _ _ _ _ _ _ _ _ _ _ _ _ _ _ _ _ _ _ _ _ _ _ _ _ _ _ _ _ _ _ _ _ _ _ _ _ _ CHH.out hP _ (fun _ _ _ h => h) (fun v' g ao ca bo cb hb3 hat => NoPanic.normal ?_))
          have t3 := hat.cell (i := 3) rfl
          have HB3 : Hid (Below w0.heap.size w0 v') := below_then hbs.out hb3
          obtain ⟨st, hst⟩ : ∃ st, st = (zq N c L F (2 * i + s)).st := ⟨_, rfl⟩
          rw [← hst] at t3
          have HST : Hid (st = (zq N c L F (2 * i + s)).st) := hst
          clear hat hb3 hst hP
          cases hy : isS N c (L (2 * i + s)) (F (2 * i + s))
          · have HY : Hid (isS N c (L (2 * i + s)) (F (2 * i + s)) = false) := hy
            clear hy
            go_wp2_with fail
            go_roundw
            case rel => exact ⟨s + 1, by omega, by go_num, HB3.out, fun j hj => by
              by_cases e : j = 2 * i + s
              · rw [e]; intro a; rw [HY.out] at a; cases a
              · exact hns.out j (by omega)⟩
            case measure => simp [intOf]; omega
          · have HY : Hid (isS N c (L (2 * i + s)) (F (2 * i + s)) = true) := hy
            clear hy
            by_cases hlt3 : st < v
            · have g1 : ¬ v ≤ st := by omega
              go_wp2_with fail
              go_roundw
              case rel => exact ⟨s + 1, by omega, by go_num, HB3.out, fun j hj => by
                by_cases e : j = 2 * i + s
                · rw [e]; intro _; rw [← HST.out]; exact hlt3
                · exact hns.out j (by omega)⟩
              case measure => simp [intOf]; omega
            · have g1 : v ≤ st := by omega
              have HLT : Hid (¬ st < v) := hlt3
              go_wp2_with fail
              go_ret
              refine ⟨ret_bool ?_, below_then B0.out HB3.out⟩
              rw [HAB.out, decide_eq_false (fun a => by have h1 := a _ (by omega) HY.out; rw [← HST.out] at h1; have h2 := HLT.out; omega)]
        · obtain rfl : s = 2 := by omega
          go_wp2_with fail
          go_roundw
          case rel => exact ⟨i + 1, by omega, by go_num, hbs.out, fun j hj => hns.out j (by omega)⟩
          case measure => simp [intOf]; omega
    · obtain rfl : i = N := by omega
      go_wp2_with fail
      go_ret
      refine ⟨ret_bool ?_, below_then B0.out hbw.out⟩
      rw [HAB.out, decide_eq_true (fun j hj => hno.out j hj)]

def AnsO (w : World) (N : Nat) (c : Int) (L : Nat → Nat) (F : Nat → Nat → UInt8) (kd : UInt8) (e : Ending) (w' : World) : Prop := ∃ y : Bool, e = .returned (.bool y) ∧ (y = true → ∀ i, i < N → ¬ twB N c L F kd i) ∧ Below w.heap.size w w'
set_option maxHeartbeats 4000000 in
set_option maxRecDepth 100000 in
theorem once_any {k r c q : Int} {N W : Nat} (h : Par k r c q N W 0) (w : World) (ro : Option Addr) (rc : Nat) (A : Nat → Option Addr) (L C : Nat → Nat) (F : Nat → Nat → UInt8) (hr : Rw w ro N A L C F) (hL : ∀ j, j < 2 * N → L j = 0 ∨ L j = sz N c) (kd : UInt8) :
    Calls Try.prog 12 #[.agg #[.int .i64 k, .int .i64 r, .int .i64 c, .int .i64 q], .slice ro N rc, .int .u8 ((kd.toNat : Nat) : Int)] w (AnsO w N c L F kd) := by
  have hle := h.le
  obtain ⟨w0, hw0⟩ : ∃ w0, w0 = w.alloc (.cells #[.int .i64 k, .int .i64 r, .int .i64 c, .int .i64 q] 23) := ⟨_, rfl⟩
  have B0 : Hid (Below w.heap.size w w0) := by show Below _ _ _; rw [hw0]; exact below_alloc _ _
  have L0 : Hid (∀ v, Below w0.heap.size w0 v → At w v w.heap.size #[.int .i64 k, .int .i64 r, .int .i64 c, .int .i64 q] 23) := fun v hv => (at_made (Below.refl _ _) hw0).below hv
  have HR : Hid (Rw w ro N A L C F) := hr
  have HP : Hid (∀ j, j < 2 * N → ∀ u, Below w.heap.size w u → Calls Try.prog 21 #[.agg #[.int .i64 k, .int .i64 r, .int .i64 c, .int .i64 q], .slice (A j) (L j) (C j)] u fun e w' => ∃ ao ca bo cb, e = .returned (.tuple #[.agg #[.int .u8 (((zq N c L F j).kd.toNat : Nat) : Int), .int .i64 (zq N c L F j).ix, .int .i64 (zq N c L F j).ce, .int .i64 (zq N c L F j).st, .slice ao (zq N c L F j).vn ca, .slice bo (zq N c L F j).dn cb], .bool (isS N c (L j) (F j)), .int .i64 0]) ∧ Below u.heap.size u w') := fun j hj u hu => by
    refine (Parse_any h u _ _ _ _ ((hr.bec j hj).below hu) 0 (by unfold erQ; rw [if_pos rfl, if_pos (hL j hj)]) (isS N c (L j) (F j)) (by unfold isQ; simp) (zq N c L F j) rfl).mono ?_
    rintro e w' ⟨ao, ca, bo, cb, rfl, _, hb⟩
    exact ⟨ao, ca, bo, cb, rfl, hb⟩
  clear h hr hL
  go_enter Try.func12, Try.ntmps12
  go_wp2_with fail
  rw [← hw0]
  clear hw0
  go_loopw [7] (fun y wr => ∃ i : Nat, i ≤ N ∧ y = .int .i64 (i : Int) ∧ Hid (Below w0.heap.size w0 wr) ∧ Hid (∀ j, j < i → ¬ twB N c L F kd j)) (fun y _ => N - (intOf y).toNat)
  case atStart => exact ⟨0, Nat.zero_le _, rfl, Below.refl _ _, fun j hj => absurd hj (by omega)⟩
  case round =>
    obtain ⟨i, hi, rfl, hbw, hno⟩ := hrel
    by_cases hlt : i < N
    · obtain ⟨b, off, rfl, hcc⟩ := HR.out.at_ (by omega)
      have i1 : (0 : Int) ≤ (i : Int) := by omega
      have i2 : (i : Int) < (N : Int) := by omega
      have CH0 : Hid (∀ v, Below wr.heap.size wr v → (v.cell? ⟨w.heap.size, 0, none⟩ = some (.int .i64 k) ∧ v.cell? ⟨w.heap.size, 1, none⟩ = some (.int .i64 r) ∧ v.cell? ⟨w.heap.size, 2, none⟩ = some (.int .i64 c) ∧ v.cell? ⟨w.heap.size, 3, none⟩ = some (.int .i64 q) ∧ v.cell? ⟨b, off + i * 2, none⟩ = some (.slice (A (2 * i)) (L (2 * i)) (C (2 * i))))) := fun v hv => by
        have p := L0.out v (below_then hbw.out hv)
        exact ⟨p.cell (i := 0) rfl, p.cell (i := 1) rfl, p.cell (i := 2) rfl, p.cell (i := 3) rfl, held (hcc i hlt).1 (below_then (below_then B0.out hbw.out) hv)⟩
      have CH1 : Hid (∀ v, Below wr.heap.size wr v → (v.cell? ⟨w.heap.size, 0, none⟩ = some (.int .i64 k) ∧ v.cell? ⟨w.heap.size, 1, none⟩ = some (.int .i64 r) ∧ v.cell? ⟨w.heap.size, 2, none⟩ = some (.int .i64 c) ∧ v.cell? ⟨w.heap.size, 3, none⟩ = some (.int .i64 q) ∧ v.cell? ⟨b, off + i * 2 + 1, none⟩ = some (.slice (A (2 * i + 1)) (L (2 * i + 1)) (C (2 * i + 1))))) := fun v hv => by
        have p := L0.out v (below_then hbw.out hv)
        exact ⟨p.cell (i := 0) rfl, p.cell (i := 1) rfl, p.cell (i := 2) rfl, p.cell (i := 3) rfl, held (hcc i hlt).2 (below_then (below_then B0.out hbw.out) hv)⟩
      have hP0 := fun u (hu : Below wr.heap.size wr u) => HP.out (2 * i) (by omega) u (below_then (below_then B0.out hbw.out) hu)
      have hP1 := fun u (hu : Below wr.heap.size wr u) => HP.out (2 * i + 1) (by omega) u (below_then (below_then B0.out hbw.out) hu)
      clear hcc
      obtain ⟨z0, hz0⟩ : ∃ z, z = zq N c L F (2 * i) := ⟨_, rfl⟩
      obtain ⟨z1, hz1⟩ : ∃ z, z = zq N c L F (2 * i + 1) := ⟨_, rfl⟩
      obtain ⟨y0, hy0⟩ : ∃ y, y = isS N c (L (2 * i)) (F (2 * i)) := ⟨_, rfl⟩
      obtain ⟨y1, hy1⟩ : ∃ y, y = isS N c (L (2 * i + 1)) (F (2 * i + 1)) := ⟨_, rfl⟩
      have HTW : Hid (twB N c L F kd i ↔ (y0 = true ∧ y1 = true ∧ z0.kd = kd ∧ z1.kd = kd ∧ z0.ce = z1.ce)) := by
        unfold twB; rw [← hz0, ← hz1, ← hy0, ← hy1]; exact Iff.rfl
      rw [← hz0, ← hy0] at hP0
      rw [← hz1, ← hy1] at hP1
      clear hz0 hz1 hy0 hy1
      go_wp2_with fail
      refine wp_region_noPanic (once_reg0 wr k r c q w.heap.size b off N rc i i1 i2 (A (2 * i)) (L (2 * i)) (C (2 * i)) z0 y0 _ _ _ _ _ _ _ _ _ _ _ _ _ _ _ _ _ _ _ _ _ _ _ _ _ _ _ _ _ _ _ _ _ _ _ _ _ _ _ _ _ _ _ _ _ _ _ _ _ _ _ _ _ _ _ _ _ _ _ _ _ _ _ _ _ _ _ _ _ _ CH0.out hP0 _ (fun _ _ _ h => h) (fun v' g ao ca bo cb hb3 hat => NoPanic.normal ?_))
      go_wp2_with fail
      refine wp_region_noPanic (once_reg1 v' k r c q w.heap.size b off N rc i i1 i2 (A (2 * i + 1)) (L (2 * i + 1)) (C (2 * i + 1)) z1 y1 _ _ _ _ _ _ _ _ _ _ _ _ _ _ _ _ _ _ _ _ _ _ _ _ _ _ _ _ _ _ _ _ _ _ _ _ _ _ _ _ _ _ _ _ _ _ _ _ _ _ _ _ _ _ _ _ _ _ _ _ _ _ _ _ _ _ _ _ _ _ (fun u hu => CH1.out u (below_then hb3 hu)) (fun u hu => hP1 u (below_then hb3 hu)) _ (fun _ _ _ h => h) (fun v2 g' ao' ca' bo' cb' hb4 hat' => NoPanic.normal ?_))
      have hat2 := hat.below hb4
      have s0 := hat2.cell (i := 0) rfl
      have s2 := hat2.cell (i := 2) rfl
      have t0 := hat'.cell (i := 0) rfl
      have t2 := hat'.cell (i := 2) rfl
      have HB3 : Hid (Below w0.heap.size w0 v2) := below_then (below_then hbw.out hb3) hb4
      have u1 := kd_beq z0.kd kd
      have u2 := kd_beq z1.kd kd
      have u3 := int_beq z0.ce z1.ce
      clear hat hat' hat2 hb3 hb4 hP0 hP1
      have step : ∀ (hn : ¬ (y0 = true ∧ y1 = true ∧ z0.kd = kd ∧ z1.kd = kd ∧ z0.ce = z1.ce)), Hid (∀ j, j < i + 1 → ¬ twB N c L F kd j) := fun hn j hj => by
        by_cases e : j = i
        · rw [e]; exact fun a => hn (HTW.out.1 a)
        · exact hno.out j (by omega)
      have HSTEP : Hid _ := And.intro trivial step
      clear step
      cases y0
      · go_wp2_with fail
        go_roundw
        case rel => exact ⟨i + 1, by omega, by go_num, HB3.out, HSTEP.out.2 (fun a => by cases a.1)⟩
        case measure => simp [intOf]; omega
      · cases y1
        · go_wp2_with fail
          go_roundw
          case rel => exact ⟨i + 1, by omega, by go_num, HB3.out, HSTEP.out.2 (fun a => by cases a.2.1)⟩
          case measure => simp [intOf]; omega
        · by_cases g0 : z0.kd = kd
          · rw [decide_eq_true g0] at u1
            by_cases g1 : z1.kd = kd
            · rw [decide_eq_true g1] at u2
              by_cases g2 : z0.ce = z1.ce
              · rw [decide_eq_true g2] at u3
                clear g0 g1 g2
                go_wp2_with fail
                go_ret
                exact ⟨false, rfl, (fun a => by cases a), below_then B0.out HB3.out⟩
              · rw [decide_eq_false g2] at u3
                have HG : Hid (¬ z0.ce = z1.ce) := g2
                clear g0 g1 g2
                go_wp2_with fail
                go_roundw
                case rel => exact ⟨i + 1, by omega, by go_num, HB3.out, HSTEP.out.2 (fun a => HG.out a.2.2.2.2)⟩
                case measure => simp [intOf]; omega
            · rw [decide_eq_false g1] at u2
              have HG : Hid (¬ z1.kd = kd) := g1
              clear g0 g1
              go_wp2_with fail
              go_roundw
              case rel => exact ⟨i + 1, by omega, by go_num, HB3.out, HSTEP.out.2 (fun a => HG.out a.2.2.2.1)⟩
              case measure => simp [intOf]; omega
          · rw [decide_eq_false g0] at u1
            have HG : Hid (¬ z0.kd = kd) := g0
            clear g0
            go_wp2_with fail
            go_roundw
            case rel => exact ⟨i + 1, by omega, by go_num, HB3.out, HSTEP.out.2 (fun a => HG.out a.2.2.1)⟩
            case measure => simp [intOf]; omega
    · obtain rfl : i = N := by omega
      go_wp2_with fail
      go_ret
      exact ⟨true, rfl, (fun _ j hj => hno.out j hj), below_then B0.out hbw.out⟩
end Go.Proofs.Ytapflgfifppckaa
