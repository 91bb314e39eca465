import Derived.BigQuiet
import Derived.Test.YtdmpiipllmjloaaGreatPj29
import Derived.Test.YtdmpiipllmjloaaGreatPj40
namespace Go.Proofs.YtdmpiipllmjloaaGreat
open Go.RowKit
def puJ (N : Nat) (c : Int) (L : Nat -> Nat) (F : Nat -> Nat -> UInt8) (j : Nat) : Prop := isS N c (L j) (F j) = true -> (zq N c L F j).kd = 2 -> ∀ l, l < (zq N c L F j).vn -> (zq N c L F j).V l = (zq N c L F j).ce /\ (zq N c L F j).ix = ((j / 2 : Nat) : Int)
theorem kd2 (u : UInt8) : (((u.toNat : Nat) : Int) == 2) = decide (u = 2) := kd_beq u 2
set_option maxHeartbeats 4000000 in
set_option maxRecDepth 100000 in
theorem pure_any {k r c q : Int} {N W : Nat} (h : Par k r c q N W 0) (w : World) (ro : Option Addr) (rc : Nat) (A : Nat -> Option Addr) (L C : Nat -> Nat) (F : Nat -> Nat -> UInt8) (hr : Rw w ro N A L C F) (hL : ∀ j, j < 2 * N -> L j = 0 \/ L j = sz N c) :
    Calls Tryz.prog 9 #[.agg #[.int .i64 k, .int .i64 r, .int .i64 c, .int .i64 q], .slice ro N rc] w fun e w' => ∃ y : Bool, e = .returned (.bool y) /\ (y = true -> ∀ j, j < 2 * N -> puJ N c L F j) /\ Below w.heap.size w w' := by
  have hle := h.le
  obtain ⟨w0, hw0⟩ : ∃ w0, w0 = w.alloc (.cells #[.int .i64 k, .int .i64 r, .int .i64 c, .int .i64 q] 23) := ⟨_, rfl⟩
  have B0 : Hid (Below w.heap.size w w0) := by show Below _ _ _; rw [hw0]; exact below_alloc _ _
  have L0 : Hid (∀ v, Below w0.heap.size w0 v -> At w v w.heap.size #[.int .i64 k, .int .i64 r, .int .i64 c, .int .i64 q] 23) := fun v hv => (at_made (Below.refl _ _) hw0).below hv
  have HR : Hid (Rw w ro N A L C F) := hr
  have HP : Hid (∀ j, j < 2 * N -> ∀ u, Below w.heap.size w u -> Calls Tryz.prog 24 #[.agg #[.int .i64 k, .int .i64 r, .int .i64 c, .int .i64 q], .slice (A j) (L j) (C j)] u fun e w' => ∃ ao ca bo cb, e = .returned (.tuple #[.agg #[.int .u8 (((zq N c L F j).kd.toNat : Nat) : Int), .int .i64 (zq N c L F j).ix, .int .i64 (zq N c L F j).ce, .int .i64 (zq N c L F j).st, .slice ao (zq N c L F j).vn ca, .slice bo (zq N c L F j).dn cb], .bool (isS N c (L j) (F j)), .int .i64 0]) /\ Got u.heap.size w' (zq N c L F j) ao ca bo cb /\ Below u.heap.size u w') := fun j hj u hu => by
    refine (Parse_any h u _ _ _ _ ((hr.bec j hj).below hu) 0 (by unfold erQ; rw [if_pos rfl, if_pos (hL j hj)]) (isS N c (L j) (F j)) (by unfold isQ; simp) (zq N c L F j) rfl).mono ?_
    rintro e w' ⟨ao, ca, bo, cb, rfl, hg, hb⟩
    exact ⟨ao, ca, bo, cb, rfl, hg, hb⟩
  have HZN : Hid (∀ j, isS N c (L j) (F j) = true -> (zq N c L F j).vn <= 16) := fun j hj => by
    show (slQ _ _ _ _).vn <= 16
    unfold slQ; rw [hj, if_pos rfl]; exact hle
  clear h hr hL
  go_enter Tryz.func9, Tryz.ntmps9
  go_wp2_with fail
  rw [<- hw0]
  clear hw0
  go_loopw [5] (fun y wr => ∃ i : Nat, i <= N /\ y = .int .i64 (i : Int) /\ Hid (Below w0.heap.size w0 wr) /\ Hid (∀ j, j < 2 * i -> puJ N c L F j)) (fun y _ => N - (intOf y).toNat)
  case atStart => exact ⟨0, Nat.zero_le _, rfl, Below.refl _ _, fun j hj => absurd hj (by omega)⟩
  case round =>
    obtain ⟨i, hi, rfl, hbw, hno⟩ := hrel
    by_cases hlt : i < N
    · obtain ⟨b, off, rfl, hcc⟩ := HR.out.at_ (by omega)
      have i1 : (0 : Int) <= (i : Int) := by omega
      have i2 : (i : Int) < (N : Int) := by omega
      have HCC : Hid (w.cell? ⟨b, off + i * 2, none⟩ = some (.slice (A (2 * i)) (L (2 * i)) (C (2 * i))) /\ w.cell? ⟨b, off + i * 2 + 1, none⟩ = some (.slice (A (2 * i + 1)) (L (2 * i + 1)) (C (2 * i + 1)))) := hcc i hlt
      have HBW : Hid (Below w0.heap.size w0 wr) := hbw.out
      clear hcc
      go_wp2_with fail
      obtain ⟨wm, hwm⟩ : ∃ x, x = wr := ⟨wr, rfl⟩
      rw [<- hwm] at HBW ⊢
      clear hwm hbw wr
      go_loopw [6] (fun y wr => ∃ s : Nat, s <= 2 /\ y = .int .i64 (s : Int) /\ Hid (Below w0.heap.size w0 wr) /\ Hid (∀ j, j < 2 * i + s -> puJ N c L F j)) (fun y _ => 2 - (intOf y).toNat)
      case atStart => exact ⟨0, Nat.zero_le _, rfl, HBW.out, fun j hj => hno.out j (by omega)⟩
      case round =>
        obtain ⟨s, hs, rfl, hbs, hns⟩ := hrel
        by_cases hs2 : s < 2
        · have CHH : Hid (∀ v, Below wr.heap.size wr v -> (v.cell? ⟨w.heap.size, 0, none⟩ = some (.int .i64 k) /\ v.cell? ⟨w.heap.size, 1, none⟩ = some (.int .i64 r) /\ v.cell? ⟨w.heap.size, 2, none⟩ = some (.int .i64 c) /\ v.cell? ⟨w.heap.size, 3, none⟩ = some (.int .i64 q) /\ v.cell? ⟨b, off + i * 2 + s, none⟩ = some (.slice (A (2 * i + s)) (L (2 * i + s)) (C (2 * i + s))))) := fun v hv => by
            have p := L0.out v (below_then hbs.out hv)
            refine ⟨p.cell (i := 0) rfl, p.cell (i := 1) rfl, p.cell (i := 2) rfl, p.cell (i := 3) rfl, ?_⟩
            refine held ?_ (below_then (below_then B0.out hbs.out) hv)
            rcases (show s = 0 \/ s = 1 by omega) with rfl | rfl
            · exact HCC.out.1
            · exact HCC.out.2
          have j1 : (s : Int) < 2 := by omega
          have hP := fun u (hu : Below wr.heap.size wr u) => HP.out (2 * i + s) (by omega) u (below_then (below_then B0.out hbs.out) hu)
          have HJ2 : Hid ((2 * i + s) / 2 = i) := (by omega : (2 * i + s) / 2 = i)
          have HN2 := fun hj => HZN.out (2 * i + s) hj
          have HPU : Hid (puJ N c L F (2 * i + s) ↔ (isS N c (L (2 * i + s)) (F (2 * i + s)) = true -> (zq N c L F (2 * i + s)).kd = 2 -> ∀ l, l < (zq N c L F (2 * i + s)).vn -> (zq N c L F (2 * i + s)).V l = (zq N c L F (2 * i + s)).ce /\ (zq N c L F (2 * i + s)).ix = ((i : Nat) : Int))) := by
            show _ ↔ _
            unfold puJ; rw [HJ2.out]
          generalize zq N c L F (2 * i + s) = z at hP HPU HN2
          generalize isS N c (L (2 * i + s)) (F (2 * i + s)) = y at hP HPU HN2
          have HNX : Hid (puJ N c L F (2 * i + s) -> ∀ j, j < 2 * i + (s + 1) -> puJ N c L F j) := fun hp j hj => by
            by_cases e : j = 2 * i + s
            · rw [e]; exact hp
            · exact hns.out j (by omega)
          go_wp2_with fail
          refine pure_reg wr k r c q w.heap.size b off N rc i s hs2 i1 i2 (A (2 * i + s)) (L (2 * i + s)) (C (2 * i + s)) z y 0 _ _ _ _ _ _ _ _ _ _ _ _ _ _ _ _ _ _ _ _ _ _ _ _ _ _ _ _ _ _ _ _ _ _ _ _ _ _ _ _ _ _ _ _ _ _ _ _ _ _ _ _ _ _ _ _ _ _ _ _ CHH.out hP _ (fun v' g ao ca bo cb hb3 hat hhas => ?_)
          have HB3 : Hid (Below w0.heap.size w0 v') := below_then hbs.out hb3
          have c0 := hat.cell (i := 0) rfl
          have c1 := hat.cell (i := 1) rfl
          have c2 := hat.cell (i := 2) rfl
          have c4 := hat.cell (i := 4) rfl
          have u0 := kd2 z.kd
          have HAT : Hid (At wr v' g #[.int .u8 ((z.kd.toNat : Nat) : Int), .int .i64 z.ix, .int .i64 z.ce, .int .i64 z.st, .slice ao z.vn ca, .slice bo z.dn cb] 63) := hat
          have HV : Hid (Vec v' ao z.vn ca z.V) := hhas.has.vec
          clear hat hb3 hP hhas HP
          cases y
          · go_wp2_with fail
            go_loopw [10] (fun y wr => y = .int .i64 0 /\ wr = v') (fun _ _ => 0)
            case atStart => exact ⟨rfl, rfl⟩
            case round =>
              obtain ⟨rfl, rfl⟩ := hrel
              go_wp2_with fail
              go_roundw
              case rel => exact ⟨s + 1, by omega, by go_num, HB3.out, HNX.out (HPU.out.2 (fun a => by cases a))⟩
              case measure => simp [intOf]; omega
          · by_cases hk : z.kd = 2
            · have HN3 : z.vn <= 16 := HN2 rfl
              have u1 : decide (z.kd = 2) = true := decide_eq_true hk
              rw [u1] at u0
              go_wp2_with fail
              go_loopw [10] (fun y wr => ∃ l : Nat, l <= z.vn /\ y = .int .i64 (l : Int) /\ Hid (Below v'.heap.size v' wr) /\ Hid (∀ t, t < l -> z.V t = z.ce /\ z.ix = (i : Int))) (fun y _ => z.vn - (intOf y).toNat)
              case atStart => exact ⟨0, Nat.zero_le _, rfl, Below.refl _ _, fun t ht => absurd ht (Nat.not_lt_zero t)⟩
              case round =>
                obtain ⟨l, hl, rfl, hbl, hvl⟩ := hrel
                clear c0 c1 c2 c4
                have pq := HAT.out.below hbl.out
                have c0 := pq.cell (i := 0) rfl
                have c1 := pq.cell (i := 1) rfl
                have c2 := pq.cell (i := 2) rfl
                have c4 := pq.cell (i := 4) rfl
                clear pq
                have l1 : (0 : Int) <= (l : Int) := by omega
                by_cases hlz : l < z.vn
                · have l2 : (l : Int) < (z.vn : Int) := by omega
                  obtain ⟨vb, vo, rfl, hvc⟩ := HV.out.rd (by omega)
                  have cv := held (hvc l hlz) hbl.out
                  clear hvc
                  by_cases hq1 : z.V l = z.ce
                  · by_cases hq2 : z.ix = (i : Int)
                    · have q1 : (z.V l != z.ce) = false := by simpa using hq1
                      have q2 : (z.ix != (i : Int)) = false := by simpa using hq2
                      have HVL : Hid (∀ t, t < l + 1 -> z.V t = z.ce /\ z.ix = (i : Int)) := fun t ht => by
                        by_cases e : t = l
                        · rw [e]; exact ⟨hq1, hq2⟩
                        · exact hvl.out t (by omega)
                      clear hq1 hq2
                      go_wp2_with fail
                      go_big_quiet (fail)
                      go_wp2_with fail
                      go_roundw
                      case rel => exact ⟨l + 1, by omega, by go_num, below_then hbl.out (below_drewN _ _ _), HVL.out⟩
                      case measure => simp [intOf]; omega
                    · have q1 : (z.V l != z.ce) = false := by simpa using hq1
                      have q2 : (z.ix != (i : Int)) = true := by simpa using hq2
                      clear hq1 hq2
                      go_wp2_with fail
                      go_big_quiet (fail)
                      go_wp2_with fail
                      go_ret
                      exact ⟨false, rfl, (fun e => by cases e), below_then (below_then B0.out HB3.out) (below_then hbl.out (below_drewN _ _ _))⟩
                  · have q1 : (z.V l != z.ce) = true := by simpa using hq1
                    clear hq1
                    go_wp2_with fail
                    go_big_quiet (fail)
                    go_wp2_with fail
                    go_ret
                    exact ⟨false, rfl, (fun e => by cases e), below_then (below_then B0.out HB3.out) (below_then hbl.out (below_drewN _ _ _))⟩
                · obtain rfl : l = z.vn := by omega
                  go_wp2_with fail
                  go_roundw
                  case rel => exact ⟨s + 1, by omega, by go_num, below_then HB3.out hbl.out, HNX.out (HPU.out.2 (fun _ _ => hvl.out))⟩
                  case measure => simp [intOf]; omega
            · have u1 : decide (z.kd = 2) = false := decide_eq_false hk
              rw [u1] at u0
              have HK : Hid (¬ z.kd = 2) := hk
              clear hk
              go_wp2_with fail
              go_loopw [10] (fun y wr => y = .int .i64 0 /\ wr = v') (fun _ _ => 0)
              case atStart => exact ⟨rfl, rfl⟩
              case round =>
                obtain ⟨rfl, rfl⟩ := hrel
                go_wp2_with fail
                go_roundw
                case rel => exact ⟨s + 1, by omega, by go_num, HB3.out, HNX.out (HPU.out.2 (fun _ a => absurd a HK.out))⟩
                case measure => simp [intOf]; omega
        · obtain rfl : s = 2 := by omega
          go_wp2_with fail
          go_roundw
          case rel => exact ⟨i + 1, by omega, by go_num, hbs.out, fun j hj => hns.out j (by omega)⟩
          case measure => simp [intOf]; omega
    · obtain rfl : i = N := by omega
      go_wp2_with fail
      go_ret
      exact ⟨true, rfl, fun _ j hj => hno.out j hj, below_then B0.out hbw.out⟩
end Go.Proofs.YtdmpiipllmjloaaGreat
namespace Go.Proofs.YtdmpiipllmjloaaGreat
open Go.RowKit
theorem int_beq2 (a b : Int) : (a == b) = decide (a = b) := by
  by_cases h : a = b
  · rw [decide_eq_true h]; simpa using h
  · rw [decide_eq_false h]; simpa using h
def AnsFi (w : World) (N : Nat) (c : Int) (L : Nat -> Nat) (F : Nat -> Nat -> UInt8) (v : Int) (e : Ending) (w' : World) : Prop := ∃ y : Bool, e = .returned (.bool y) /\ (y = true -> (∀ j, j < 2 * N -> isS N c (L j) (F j) = true -> (zq N c L F j).st < v) /\ ∀ i, i < N -> ¬ twB N c L F 2 i) /\ Below w.heap.size w w'
set_option maxHeartbeats 4000000 in
set_option maxRecDepth 100000 in
theorem fit_any {k r c q : Int} {N W : Nat} (h : Par k r c q N W 0) (w : World) (ro : Option Addr) (rc : Nat) (A : Nat -> Option Addr) (L C : Nat -> Nat) (F : Nat -> Nat -> UInt8) (hr : Rw w ro N A L C F) (hL : ∀ j, j < 2 * N -> L j = 0 \/ L j = sz N c) (v : Int) :
    Calls Tryz.prog 8 #[.agg #[.int .i64 k, .int .i64 r, .int .i64 c, .int .i64 q], .slice ro N rc, .int .i64 v] w (AnsFi w N c L F v) := by
  have hle := h.le
  obtain ⟨w0, hw0⟩ : ∃ w0, w0 = w.alloc (.cells #[.int .i64 k, .int .i64 r, .int .i64 c, .int .i64 q] 23) := ⟨_, rfl⟩
  have B0 : Hid (Below w.heap.size w w0) := by show Below _ _ _; rw [hw0]; exact below_alloc _ _
  have L0 : Hid (∀ v, Below w0.heap.size w0 v -> At w v w.heap.size #[.int .i64 k, .int .i64 r, .int .i64 c, .int .i64 q] 23) := fun v hv => (at_made (Below.refl _ _) hw0).below hv
  have HR : Hid (Rw w ro N A L C F) := hr
  have HP : Hid (∀ j, j < 2 * N -> ∀ u, Below w.heap.size w u -> Calls Tryz.prog 24 #[.agg #[.int .i64 k, .int .i64 r, .int .i64 c, .int .i64 q], .slice (A j) (L j) (C j)] u fun e w' => ∃ ao ca bo cb, e = .returned (.tuple #[.agg #[.int .u8 (((zq N c L F j).kd.toNat : Nat) : Int), .int .i64 (zq N c L F j).ix, .int .i64 (zq N c L F j).ce, .int .i64 (zq N c L F j).st, .slice ao (zq N c L F j).vn ca, .slice bo (zq N c L F j).dn cb], .bool (isS N c (L j) (F j)), .int .i64 0]) /\ Got u.heap.size w' (zq N c L F j) ao ca bo cb /\ Below u.heap.size u w') := fun j hj u hu => by
    refine (Parse_any h u _ _ _ _ ((hr.bec j hj).below hu) 0 (by unfold erQ; rw [if_pos rfl, if_pos (hL j hj)]) (isS N c (L j) (F j)) (by unfold isQ; simp) (zq N c L F j) rfl).mono ?_
    rintro e w' ⟨ao, ca, bo, cb, rfl, hg, hb⟩
    exact ⟨ao, ca, bo, cb, rfl, hg, hb⟩
  clear h hr hL
  go_enter Tryz.func8, Tryz.ntmps8
  go_wp2_with fail
  rw [<- hw0]
  clear hw0
  go_loopw [7] (fun y wr => ∃ i : Nat, i <= N /\ y = .int .i64 (i : Int) /\ Hid (Below w0.heap.size w0 wr) /\ Hid (∀ j, j < 2 * i -> isS N c (L j) (F j) = true -> (zq N c L F j).st < v) /\ Hid (∀ j, j < i -> ¬ twB N c L F 2 j)) (fun y _ => N - (intOf y).toNat)
  case atStart => exact ⟨0, Nat.zero_le _, rfl, Below.refl _ _, fun j hj => absurd hj (by omega), fun j hj => absurd hj (by omega)⟩
  case round =>
    obtain ⟨i, hi, rfl, hbw, hst, hno⟩ := hrel
    by_cases hlt : i < N
    · obtain ⟨b, off, rfl, hcc⟩ := HR.out.at_ (by omega)
      have i1 : (0 : Int) <= (i : Int) := by omega
      have i2 : (i : Int) < (N : Int) := by omega
      have CH0 : Hid (∀ v, Below wr.heap.size wr v -> (v.cell? ⟨w.heap.size, 0, none⟩ = some (.int .i64 k) /\ v.cell? ⟨w.heap.size, 1, none⟩ = some (.int .i64 r) /\ v.cell? ⟨w.heap.size, 2, none⟩ = some (.int .i64 c) /\ v.cell? ⟨w.heap.size, 3, none⟩ = some (.int .i64 q) /\ v.cell? ⟨b, off + i * 2, none⟩ = some (.slice (A (2 * i)) (L (2 * i)) (C (2 * i))))) := fun v hv => by
        have p := L0.out v (below_then hbw.out hv)
        exact ⟨p.cell (i := 0) rfl, p.cell (i := 1) rfl, p.cell (i := 2) rfl, p.cell (i := 3) rfl, held (hcc i hlt).1 (below_then (below_then B0.out hbw.out) hv)⟩
      have CH1 : Hid (∀ v, Below wr.heap.size wr v -> (v.cell? ⟨w.heap.size, 0, none⟩ = some (.int .i64 k) /\ v.cell? ⟨w.heap.size, 1, none⟩ = some (.int .i64 r) /\ v.cell? ⟨w.heap.size, 2, none⟩ = some (.int .i64 c) /\ v.cell? ⟨w.heap.size, 3, none⟩ = some (.int .i64 q) /\ v.cell? ⟨b, off + i * 2 + 1, none⟩ = some (.slice (A (2 * i + 1)) (L (2 * i + 1)) (C (2 * i + 1))))) := fun v hv => by
        have p := L0.out v (below_then hbw.out hv)
        exact ⟨p.cell (i := 0) rfl, p.cell (i := 1) rfl, p.cell (i := 2) rfl, p.cell (i := 3) rfl, held (hcc i hlt).2 (below_then (below_then B0.out hbw.out) hv)⟩
      have hP0 := fun u (hu : Below wr.heap.size wr u) => HP.out (2 * i) (by omega) u (below_then (below_then B0.out hbw.out) hu)
      have hP1 := fun u (hu : Below wr.heap.size wr u) => HP.out (2 * i + 1) (by omega) u (below_then (below_then B0.out hbw.out) hu)
      clear hcc
      obtain ⟨z0, hz0⟩ : ∃ z, z = zq N c L F (2 * i) := ⟨_, rfl⟩
      obtain ⟨z1, hz1⟩ : ∃ z, z = zq N c L F (2 * i + 1) := ⟨_, rfl⟩
      obtain ⟨y0, hy0⟩ : ∃ y, y = isS N c (L (2 * i)) (F (2 * i)) := ⟨_, rfl⟩
      obtain ⟨y1, hy1⟩ : ∃ y, y = isS N c (L (2 * i + 1)) (F (2 * i + 1)) := ⟨_, rfl⟩
      have HTW : Hid (twB N c L F 2 i ↔ (y0 = true /\ y1 = true /\ z0.kd = 2 /\ z1.kd = 2 /\ z0.ce = z1.ce)) := by
        unfold twB; rw [<- hz0, <- hz1, <- hy0, <- hy1]; exact Iff.rfl
      have stp : (y0 = true -> z0.st < v) -> (y1 = true -> z1.st < v) -> Hid (∀ j, j < 2 * (i + 1) -> isS N c (L j) (F j) = true -> (zq N c L F j).st < v) := fun a0 a1 j hj hs => by
        by_cases e0 : j = 2 * i
        · rw [e0, <- hz0]; exact a0 (by rw [hy0, <- e0]; exact hs)
        · by_cases e1 : j = 2 * i + 1
          · rw [e1, <- hz1]; exact a1 (by rw [hy1, <- e1]; exact hs)
          · exact hst.out j (by omega) hs
      have HS1 : Hid _ := And.intro trivial stp
      rw [<- hz0, <- hy0] at hP0
      rw [<- hz1, <- hy1] at hP1
      clear hz0 hz1 hy0 hy1 stp
      go_wp2_with fail
      refine fit_reg0 wr k r c q w.heap.size b off N rc i i1 i2 (A (2 * i)) (L (2 * i)) (C (2 * i)) z0 y0 0 _ _ _ _ _ _ _ _ _ _ _ _ _ _ _ _ _ _ _ _ _ _ _ _ _ _ _ _ _ _ _ _ _ _ _ _ _ _ _ _ _ _ _ _ _ _ _ _ _ _ _ _ _ _ _ _ _ _ _ _ _ _ _ _ _ _ _ _ _ _ _ _ _ _ _ _ _ _ _ _ _ _ _ _ CH0.out hP0 _ (fun v' g ao ca bo cb hb3 hat _ => ?_)
      go_wp2_with fail
      refine fit_reg1 v' k r c q w.heap.size b off N rc i i1 i2 (A (2 * i + 1)) (L (2 * i + 1)) (C (2 * i + 1)) z1 y1 0 _ _ _ _ _ _ _ _ _ _ _ _ _ _ _ _ _ _ _ _ _ _ _ _ _ _ _ _ _ _ _ _ _ _ _ _ _ _ _ _ _ _ _ _ _ _ _ _ _ _ _ _ _ _ _ _ _ _ _ _ _ _ _ _ _ _ _ _ _ _ _ _ _ _ _ _ _ _ _ _ _ _ _ _ (fun u hu => CH1.out u (below_then hb3 hu)) (fun u hu => hP1 u (below_then hb3 hu)) _ (fun v2 g' ao' ca' bo' cb' hb4 hat' _ => ?_)
      have hat2 := hat.below hb4
      have s0 := hat2.cell (i := 0) rfl
      have s2 := hat2.cell (i := 2) rfl
      have s3 := hat2.cell (i := 3) rfl
      have t0 := hat'.cell (i := 0) rfl
      have t2 := hat'.cell (i := 2) rfl
      have t3 := hat'.cell (i := 3) rfl
      have HB3 : Hid (Below w0.heap.size w0 v2) := below_then (below_then hbw.out hb3) hb4
      have u1 := kd2 z0.kd
      have u2 := kd2 z1.kd
      have u3 := int_beq2 z0.ce z1.ce
      clear hat hat' hat2 hb3 hb4 hP0 hP1
      have step : ∀ (hn : ¬ (y0 = true /\ y1 = true /\ z0.kd = 2 /\ z1.kd = 2 /\ z0.ce = z1.ce)), Hid (∀ j, j < i + 1 -> ¬ twB N c L F 2 j) := fun hn j hj => by
        by_cases e : j = i
        · rw [e]; exact fun a => hn (HTW.out.1 a)
        · exact hno.out j (by omega)
      have HS2 : Hid _ := And.intro trivial step
      clear step
      cases y0
      · cases y1
        · go_wp2_with fail
          go_roundw
          case rel => exact ⟨i + 1, by omega, by go_num, HB3.out, HS1.out.2 (fun a => by cases a) (fun a => by cases a), HS2.out.2 (fun a => by cases a.1)⟩
          case measure => simp [intOf]; omega
        · by_cases g1 : v <= z1.st
          · have d1 : decide (v <= z1.st) = true := decide_eq_true g1
            go_wp2_with fail
            go_ret
            exact ⟨false, rfl, (fun e => by cases e), below_then B0.out HB3.out⟩
          · have d1 : decide (v <= z1.st) = false := decide_eq_false g1
            go_wp2_with fail
            go_roundw
            case rel => exact ⟨i + 1, by omega, by go_num, HB3.out, HS1.out.2 (fun a => by cases a) (fun _ => by omega), HS2.out.2 (fun a => by cases a.1)⟩
            case measure => simp [intOf]; omega
      · by_cases g0 : v <= z0.st
        · have d0 : decide (v <= z0.st) = true := decide_eq_true g0
          go_wp2_with fail
          go_ret
          exact ⟨false, rfl, (fun e => by cases e), below_then B0.out HB3.out⟩
        · have d0 : decide (v <= z0.st) = false := decide_eq_false g0
          cases y1
          · go_wp2_with fail
            go_roundw
            case rel => exact ⟨i + 1, by omega, by go_num, HB3.out, HS1.out.2 (fun _ => by omega) (fun a => by cases a), HS2.out.2 (fun a => by cases a.2.1)⟩
            case measure => simp [intOf]; omega
          · by_cases g1 : v <= z1.st
            · have d1 : decide (v <= z1.st) = true := decide_eq_true g1
              go_wp2_with fail
              go_ret
              exact ⟨false, rfl, (fun e => by cases e), below_then B0.out HB3.out⟩
            · have d1 : decide (v <= z1.st) = false := decide_eq_false g1
              by_cases k0 : z0.kd = 2
              · rw [decide_eq_true k0] at u1
                by_cases k1 : z1.kd = 2
                · rw [decide_eq_true k1] at u2
                  by_cases k2 : z0.ce = z1.ce
                  · rw [decide_eq_true k2] at u3
                    go_wp2_with fail
                    go_ret
                    exact ⟨false, rfl, (fun e => by cases e), below_then B0.out HB3.out⟩
                  · rw [decide_eq_false k2] at u3
                    go_wp2_with fail
                    go_roundw
                    case rel => exact ⟨i + 1, by omega, by go_num, HB3.out, HS1.out.2 (fun _ => by omega) (fun _ => by omega), HS2.out.2 (fun a => k2 a.2.2.2.2)⟩
                    case measure => simp [intOf]; omega
                · rw [decide_eq_false k1] at u2
                  go_wp2_with fail
                  go_roundw
                  case rel => exact ⟨i + 1, by omega, by go_num, HB3.out, HS1.out.2 (fun _ => by omega) (fun _ => by omega), HS2.out.2 (fun a => k1 a.2.2.2.1)⟩
                  case measure => simp [intOf]; omega
              · rw [decide_eq_false k0] at u1
                go_wp2_with fail
                go_roundw
                case rel => exact ⟨i + 1, by omega, by go_num, HB3.out, HS1.out.2 (fun _ => by omega) (fun _ => by omega), HS2.out.2 (fun a => k0 a.2.2.1)⟩
                case measure => simp [intOf]; omega
    · obtain rfl : i = N := by omega
      go_wp2_with fail
      go_ret
      exact ⟨true, rfl, fun _ => ⟨hst.out, hno.out⟩, below_then B0.out hbw.out⟩
end Go.Proofs.YtdmpiipllmjloaaGreat
