import Derived.Test.YtdmpiipllmjloaaGreatPj36
import Derived.Test.YtdmpiipllmjloaaGreatPj38
import Derived.Test.YtdmpiipllmjloaaGreatPj41
import Derived.Test.YtdmpiipllmjloaaGreatPj42
namespace Go.Proofs.YtdmpiipllmjloaaGreat
open Go.RowKit
def cdT (Y : Nat -> Sl) (v : Int) (s i : Nat) : Sl := if 2 <= s /\ hB (Y (2 * i + 1)) 2 v = true then Y (2 * i + 1) else if 1 <= s /\ hB (Y (2 * i)) 2 v = true then Y (2 * i) else zSl
def cdZ (Y : Nat -> Sl) (v : Int) (i s j : Nat) : Sl := if j < i then cdT Y v 2 j else if j = i then cdT Y v s j else zSl
theorem cdZ_next (Y : Nat -> Sl) (v : Int) (i : Nat) : cdZ Y v i 2 = cdZ Y v (i + 1) 0 := funext fun j => by
  have h0 : ∀ t, cdT Y v 0 t = zSl := fun t => by unfold cdT; rw [if_neg (fun a => by omega), if_neg (fun a => by omega)]
  unfold cdZ
  by_cases a : j < i
  · rw [if_pos a, if_pos (by omega)]
  · rw [if_neg a]
    by_cases b : j = i
    · rw [if_pos b, if_pos (by omega)]
    · rw [if_neg b, if_neg (by omega)]
      by_cases d : j = i + 1
      · rw [if_pos d, h0]
      · rw [if_neg d]
theorem cdZ_zero (Y : Nat -> Sl) (v : Int) : cdZ Y v 0 0 = fun _ => zSl := funext fun j => by
  unfold cdZ cdT
  rw [if_neg (by omega)]
  by_cases b : j = 0
  · rw [if_pos b, if_neg (fun a => by omega), if_neg (fun a => by omega)]
  · rw [if_neg b]
theorem cdZ_take {Y : Nat -> Sl} {v : Int} {i s : Nat} (hs : s < 2) (h : hB (Y (2 * i + s)) 2 v = true) : cdZ Y v i (s + 1) = Cod.put i (Y (2 * i + s)) (cdZ Y v i s) := funext fun j => by
  by_cases b : j = i
  · rw [b, Cod.put_at]
    unfold cdZ cdT
    rw [if_neg (Nat.lt_irrefl i), if_pos rfl]
    rcases (show s = 0 \/ s = 1 by omega) with rfl | rfl
    · rw [if_neg (fun a => by omega), if_pos ⟨by omega, h⟩]; rfl
    · rw [if_pos ⟨by omega, h⟩]
  · rw [Cod.put_ne _ _ b]
    unfold cdZ
    by_cases a : j < i
    · rw [if_pos a, if_pos a]
    · rw [if_neg a, if_neg a, if_neg b, if_neg b]
theorem cdZ_skip {Y : Nat -> Sl} {v : Int} {i s : Nat} (hs : s < 2) (h : hB (Y (2 * i + s)) 2 v = false) : cdZ Y v i (s + 1) = cdZ Y v i s := funext fun j => by
  unfold cdZ
  by_cases a : j < i
  · rw [if_pos a, if_pos a]
  · rw [if_neg a, if_neg a]
    by_cases b : j = i
    · rw [if_pos b, if_pos b, b]
      unfold cdT
      rcases (show s = 0 \/ s = 1 by omega) with rfl | rfl
      · rw [Nat.add_zero] at h
        rw [if_neg (fun a => by omega), if_neg (fun a => by rw [h] at a; cases a.2), if_neg (fun a => by omega), if_neg (fun a => by omega)]
      · rw [if_neg (fun a => by rw [h] at a; cases a.2), if_neg (fun a : 2 <= 1 /\ _ => by omega)]
        by_cases d : hB (Y (2 * i)) 2 v = true
        · rw [if_pos ⟨by omega, d⟩, if_pos ⟨by omega, d⟩]
        · rw [if_neg (fun a => d a.2), if_neg (fun a => d a.2)]
    · rw [if_neg b, if_neg b]
theorem yy_hB {N : Nat} {c : Int} {L : Nat -> Nat} {F : Nat -> Nat -> UInt8} {v : Int} (hv : v ≠ 0) (j : Nat) : hB (yy N c L F j) 2 v = true ↔ (isS N c (L j) (F j) = true /\ (zq N c L F j).kd = 2 /\ (zq N c L F j).ix = ((j / 2 : Nat) : Int) /\ (zq N c L F j).ce = v) := by
  constructor
  · intro h
    obtain ⟨_, a, b⟩ := hB_true h
    rcases he_is N c ((j / 2 : Nat) : Int) (L j) (F j) with e | ⟨_, e2, e3, e4⟩
    · have : yy N c L F j = zSl := e
      rw [this] at a; exact absurd a (by decide)
    · have hz : yy N c L F j = zq N c L F j := by show he 0 N c _ _ _ = slQ _ _ _ _; rw [e4]; unfold slQ; rw [e3, if_pos rfl]
      rw [hz] at a b
      exact ⟨e3, a, by rw [<- hz]; exact e2, b⟩
  · rintro ⟨a, b, d, e⟩
    have hz : yy N c L F j = zq N c L F j := by
      show he 0 N c ((j / 2 : Nat) : Int) (L j) (F j) = zq N c L F j
      unfold zq at d ⊢
      unfold he ofI
      rw [if_pos rfl, if_pos d]
    rw [hz]
    exact hB_of hv b e
def AnsCd (w : World) (N : Nat) (c k r : Int) (L : Nat -> Nat) (F : Nat -> Nat -> UInt8) (v : Int) (e : Ending) (w' : World) : Prop := ∃ y : Bool, e = .returned (.bool y) /\ (y = true -> (∀ i, i < N -> (cdT (yy N c L F) v 2 i).dn ≠ 0) /\ Cod.verB k.toNat r.toNat c.toNat (fun i b => toK ((cdT (yy N c L F) v 2 i).D b)) = true) /\ Below w.heap.size w w'
theorem made_rows (n : Nat) : madeCells #[Value.slice none 0 0] n = (Cod.rowsOf n (fun _ => none) (fun _ => 0) (fun _ => 0)).toArray := by
  apply Array.ext'
  unfold Cod.rowsOf madeCells
  apply List.ext_getElem?
  intro i
  by_cases h : i < n
  · simp [h, Nat.mod_one]
  · simp [h]
theorem put_dn (i : Nat) (y : Sl) (Z : Nat -> Sl) : (fun j => (Cod.put i y Z j).dn) = Cod.put i y.dn (fun j => (Z j).dn) := funext fun j => by
  unfold Cod.put; split <;> rfl
set_option maxHeartbeats 4000000 in
set_option maxRecDepth 100000 in
theorem coded_any {k r c q : Int} {N W : Nat} (h : Par k r c q N W 0) (w : World) (ro : Option Addr) (rc : Nat) (A : Nat -> Option Addr) (L C : Nat -> Nat) (F : Nat -> Nat -> UInt8) (hr : Rw w ro N A L C F) (hL : ∀ j, j < 2 * N -> L j = 0 \/ L j = sz N c) (v : Int) (hv : v ≠ 0) :
    Calls Tryz.prog 12 #[.agg #[.int .i64 k, .int .i64 r, .int .i64 c, .int .i64 q], .slice ro N rc, .int .i64 v] w (AnsCd w N c k r L F v) := by
  have hle := h.le
  obtain ⟨w0, hw0⟩ : ∃ w0, w0 = w.alloc (.cells #[.int .i64 k, .int .i64 r, .int .i64 c, .int .i64 q] 23) := ⟨_, rfl⟩
  have B0 : Hid (Below w.heap.size w w0) := by show Below _ _ _; rw [hw0]; exact below_alloc _ _
  have L0 : Hid (∀ v, Below w0.heap.size w0 v -> At w v w.heap.size #[.int .i64 k, .int .i64 r, .int .i64 c, .int .i64 q] 23) := fun v hv => (at_made (Below.refl _ _) hw0).below hv
  have HR : Hid (Rw w ro N A L C F) := hr
  have HP : Hid (∀ j, j < 2 * N -> ∀ u, Below w.heap.size w u -> Calls Tryz.prog 24 #[.agg #[.int .i64 k, .int .i64 r, .int .i64 c, .int .i64 q], .slice (A j) (L j) (C j)] u fun e w' => ∃ ao ca bo cb, e = .returned (.tuple #[.agg #[.int .u8 (((zq N c L F j).kd.toNat : Nat) : Int), .int .i64 (zq N c L F j).ix, .int .i64 (zq N c L F j).ce, .int .i64 (zq N c L F j).st, .slice ao (zq N c L F j).vn ca, .slice bo (zq N c L F j).dn cb], .bool (isS N c (L j) (F j)), .int .i64 0]) /\ Got u.heap.size w' (zq N c L F j) ao ca bo cb /\ Below u.heap.size u w') := fun j hj u hu => by
    refine (Parse_any h u _ _ _ _ ((hr.bec j hj).below hu) 0 (by unfold erQ; rw [if_pos rfl, if_pos (hL j hj)]) (isS N c (L j) (F j)) (by unfold isQ; simp) (zq N c L F j) rfl).mono ?_
    rintro e w' ⟨ao, ca, bo, cb, rfl, hg, hb⟩
    exact ⟨ao, ca, bo, cb, rfl, hg, hb⟩
  obtain ⟨Y, hY⟩ : ∃ Y, Y = yy N c L F := ⟨_, rfl⟩
  have HYB : Hid (∀ j, hB (Y j) 2 v = true ↔ (isS N c (L j) (F j) = true /\ (zq N c L F j).kd = 2 /\ (zq N c L F j).ix = ((j / 2 : Nat) : Int) /\ (zq N c L F j).ce = v)) := fun j => by rw [hY]; exact yy_hB hv j
  have HYZ : Hid (∀ j, hB (Y j) 2 v = true -> Y j = zq N c L F j) := fun j hj => by
    rcases yq (N := N) (c := c) (L := L) (F := F) j with e | ⟨_, e⟩
    · rw [hY, e] at hj; exact absurd (hB_true hj).2.1 (by decide)
    · rw [hY]; exact e
  have hpar := h
  have HM : Hid (1 <= k.toNat /\ k.toNat + r.toNat = N /\ 8 <= c.toNat) := by
    rcases hpar with ⟨hm, hW, hN, _⟩ | ⟨_, _, _, h0⟩
    · obtain ⟨h1, h2, h3, h4, h5, h6, h7, h8, h9⟩ := may_true hm
      exact ⟨by omega, by omega, by omega⟩
    · exact absurd h0 (by decide)
  have HDN : Hid (∀ s i, i < N -> (cdT Y v s i).dn = 0 \/ (cdT Y v s i).dn = c.toNat) := fun s i hi => by
    have key : ∀ j, j < 2 * N -> hB (Y j) 2 v = true -> (Y j).dn = c.toNat := fun j hj hb => by
      rw [hY] at hb ⊢
      have := (ok_of (kd_is (yy_ok N c L F) hj (hB_true hb).2.1).1).dn
      omega
    unfold cdT
    by_cases a : 2 <= s /\ hB (Y (2 * i + 1)) 2 v = true
    · rw [if_pos a]; exact .inr (key _ (by omega) a.2)
    · rw [if_neg a]
      by_cases b : 1 <= s /\ hB (Y (2 * i)) 2 v = true
      · rw [if_pos b]; exact .inr (key _ (by omega) b.2)
      · rw [if_neg b]; exact .inl rfl
  have hmk := run_make_row' (P := Tryz.prog) 75 55 (.slice none 0 0) 24 Tryz.underlying75 Cod.info34 rfl .i64 .i64 N (by omega) (by omega)
  rw [made_rows] at hmk
  unfold AnsCd
  rw [<- hY]
  have HVF : Hid (∀ u lo cl A' C' L' H', Cod.Lst u lo N A' C' L' H' -> N <= cl -> Calls Tryz.prog 28 #[.int .i64 k, .int .i64 r, .slice lo N cl] u (Cod.Told2 u (Cod.okVer N L' k r && Cod.verB k.toNat r.toNat (Cod.len0 L' N) H') (Cod.errE (Cod.mayB k r) (Cod.okVer N L' k r)))) := fun u lo cl A' C' L' H' hl hc => Cod.Verify_any u k r lo N cl A' C' L' H' hl hc
  obtain ⟨w1, hw1⟩ : ∃ w1, w1 = w0.alloc (.cells (Cod.rowsOf N (fun _ => none) (fun _ => 0) (fun _ => 0)).toArray 55) := ⟨_, rfl⟩
  have z0 : w0.heap.size = w.heap.size + 1 := by rw [hw0]; simp
  have B1 : Hid (Below w0.heap.size w0 w1) := by show Below _ _ _; rw [hw1]; exact below_alloc _ _
  have HG : Hid (w1.heap.size = w.heap.size + 2) := by show _ = _; rw [hw1]; simp [z0]
  have HO1 : Hid (w1.ownsRow w0.heap.size 55 1 (.slice (some ⟨w.heap.size + 1, 0, none⟩) N N) N (Cod.rowsOf N (fun _ => none) (fun _ => 0) (fun _ => 0))) := by
    show World.ownsRow _ _ _ _ _ _ _
    have := World.ownsRow_lit w0 (Cod.rowsOf N (fun _ => none) (fun _ => 0) (fun _ => 0)).toArray (e := 55) (size := 1) N (Nat.le_refl _) (by unfold maxLen; omega) (by simp [Cod.rowsOf_length])
    rw [hw1, <- z0]
    simpa using this
  clear h hr hL hpar hY hv
  go_enter Tryz.func12, Tryz.ntmps12
  go_wp2_with fail
  rw [<- hw0, <- hw1]
  clear hw0 hw1 hmk z0
  go_loopw [8] (fun y wr => ∃ i : Nat, i <= N /\ y = .int .i64 (i : Int) /\ Hid (Below w0.heap.size w0 wr) /\ Hid (w1.heap.size <= wr.heap.size) /\ Hid (∃ T U, wr.ownsRow w0.heap.size 55 1 (.slice (some ⟨w.heap.size + 1, 0, none⟩) N N) N (Cod.rowsOf N T (fun j => (cdZ Y v i 0 j).dn) U) /\ ∀ j, j < N -> OwU w1.heap.size wr (T j) (cdZ Y v i 0 j).dn (U j) (cdZ Y v i 0 j).D) /\ Hid (∀ j, j < i -> (cdT Y v 2 j).dn ≠ 0)) (fun y _ => N - (intOf y).toNat)
  case atStart => exact ⟨0, Nat.zero_le _, rfl, B1.out, Nat.le_refl _, ⟨fun _ => none, fun _ => 0, by rw [cdZ_zero]; exact HO1.out, fun j _ => by rw [cdZ_zero]; exact owu_nil _ _ _⟩, fun j hj => absurd hj (Nat.not_lt_zero j)⟩
  case round =>
    obtain ⟨i, hi, rfl, hbw, hsw, hcs, hdn⟩ := hrel
    by_cases hlt : i < N
    · obtain ⟨b, off, rfl, hcc⟩ := HR.out.at_ (by omega)
      have i1 : (0 : Int) <= (i : Int) := by omega
      have i2 : (i : Int) < (N : Int) := by omega
      have HCC : Hid (w.cell? ⟨b, off + i * 2, none⟩ = some (.slice (A (2 * i)) (L (2 * i)) (C (2 * i))) /\ w.cell? ⟨b, off + i * 2 + 1, none⟩ = some (.slice (A (2 * i + 1)) (L (2 * i + 1)) (C (2 * i + 1)))) := hcc i hlt
      have HBW : Hid (Below w0.heap.size w0 wr /\ w1.heap.size <= wr.heap.size /\ ∃ T U, wr.ownsRow w0.heap.size 55 1 (.slice (some ⟨w.heap.size + 1, 0, none⟩) N N) N (Cod.rowsOf N T (fun j => (cdZ Y v i 0 j).dn) U) /\ ∀ j, j < N -> OwU w1.heap.size wr (T j) (cdZ Y v i 0 j).dn (U j) (cdZ Y v i 0 j).D) := ⟨hbw.out, hsw.out, hcs.out⟩
      clear hcc
      go_wp2_with fail
      obtain ⟨wm, hwm⟩ : ∃ x, x = wr := ⟨wr, rfl⟩
      rw [<- hwm] at HBW ⊢
      clear hwm hbw hsw hcs wr
      go_loopw [9] (fun y wr => ∃ s : Nat, s <= 2 /\ y = .int .i64 (s : Int) /\ Hid (Below w0.heap.size w0 wr) /\ Hid (w1.heap.size <= wr.heap.size) /\ Hid (∃ T U, wr.ownsRow w0.heap.size 55 1 (.slice (some ⟨w.heap.size + 1, 0, none⟩) N N) N (Cod.rowsOf N T (fun j => (cdZ Y v i s j).dn) U) /\ ∀ j, j < N -> OwU w1.heap.size wr (T j) (cdZ Y v i s j).dn (U j) (cdZ Y v i s j).D)) (fun y _ => 2 - (intOf y).toNat)
      case atStart => exact ⟨0, Nat.zero_le _, rfl, HBW.out.1, HBW.out.2.1, HBW.out.2.2⟩
      case round =>
        obtain ⟨s, hs, rfl, hbs, hss, hcs⟩ := hrel
        by_cases hs2 : s < 2
        · have CHH : Hid (∀ v, Below wr.heap.size wr v -> (v.cell? ⟨w.heap.size, 0, none⟩ = some (.int .i64 k) /\ v.cell? ⟨w.heap.size, 1, none⟩ = some (.int .i64 r) /\ v.cell? ⟨w.heap.size, 2, none⟩ = some (.int .i64 c) /\ v.cell? ⟨w.heap.size, 3, none⟩ = some (.int .i64 q) /\ v.cell? ⟨b, off + i * 2 + s, none⟩ = some (.slice (A (2 * i + s)) (L (2 * i + s)) (C (2 * i + s))))) := fun v hv => by
            have p := L0.out v (below_then hbs.out hv)
            refine ⟨p.cell (i := 0) rfl, p.cell (i := 1) rfl, p.cell (i := 2) rfl, p.cell (i := 3) rfl, ?_⟩
            refine held ?_ (below_then (below_then B0.out hbs.out) hv)
            rcases (show s = 0 \/ s = 1 by omega) with rfl | rfl
            · exact HCC.out.1
            · exact HCC.out.2
          have j1 : (s : Int) < 2 := by omega
          have hP := fun u (hu : Below wr.heap.size wr u) => HP.out (2 * i + s) (by omega) u (below_then (below_then B0.out hbs.out) hu)
          have HJ2 : (2 * i + s) / 2 = i := by omega
          have HPU := HYB.out (2 * i + s)
          rw [HJ2] at HPU
          have HYZ2 := HYZ.out (2 * i + s)
          obtain ⟨z, hz⟩ : ∃ z, z = zq N c L F (2 * i + s) := ⟨_, rfl⟩
          obtain ⟨y, hy⟩ : ∃ y, y = isS N c (L (2 * i + s)) (F (2 * i + s)) := ⟨_, rfl⟩
          rw [<- hz] at hP HPU HYZ2
          rw [<- hy] at hP HPU
          clear hz hy HJ2
          go_wp2_with fail
          refine coded_reg wr k r c q w.heap.size b off N rc i s hs2 i1 i2 (A (2 * i + s)) (L (2 * i + s)) (C (2 * i + s)) z y 0 _ _ _ _ _ _ _ _ _ _ _ _ _ _ _ _ _ _ _ _ _ _ _ _ _ _ _ _ _ _ _ _ _ _ _ _ _ _ _ _ _ _ _ _ _ _ _ _ _ _ _ _ _ _ _ _ _ _ _ _ _ _ _ _ _ _ _ _ _ _ _ _ _ _ _ _ _ _ _ _ _ CHH.out hP _ (fun v' g ao ca bo cb hb3 hat hgot => ?_)
          have HB3 : Hid (Below w0.heap.size w0 v') := below_then hbs.out hb3
          have HB4 : Hid (Below wr.heap.size wr v') := hb3
          have c0 := hat.cell (i := 0) rfl
          have c1 := hat.cell (i := 1) rfl
          have c2 := hat.cell (i := 2) rfl
          have c5 := hat.cell (i := 5) rfl
          have u0 := kd2 z.kd
          have u1 := int_beq2 z.ix (i : Int)
          have u2 := int_beq2 z.ce v
          have HGT : Hid (OwU wr.heap.size v' bo z.dn cb z.D) := hgot.bec
          have HNO : Hid (hB (Y (2 * i + s)) 2 v = false -> ∃ T U, v'.ownsRow w0.heap.size 55 1 (.slice (some ⟨w.heap.size + 1, 0, none⟩) N N) N (Cod.rowsOf N T (fun j => (cdZ Y v i (s + 1) j).dn) U) /\ ∀ j, j < N -> OwU w1.heap.size v' (T j) (cdZ Y v i (s + 1) j).dn (U j) (cdZ Y v i (s + 1) j).D) := fun hb => by
            obtain ⟨T, U, h1, h2⟩ := hcs.out
            rw [cdZ_skip hs2 hb]
            exact ⟨T, U, owns_below h1 HB4.out, fun j hj => (h2 j hj).below HB4.out⟩
          clear hat hb3 hP hgot
          have HNF : Hid (¬ (y = true /\ z.kd = 2 /\ z.ix = (i : Int) /\ z.ce = v) -> hB (Y (2 * i + s)) 2 v = false) := fun a => by
            cases e : hB (Y (2 * i + s)) 2 v
            · rfl
            · exact absurd (HPU.1 e) a
          cases y
          · go_wp2_with fail
            go_roundw
            case rel => exact ⟨s + 1, by omega, by go_num, HB3.out, Nat.le_trans hss.out HB4.out.size, HNO.out (HNF.out (fun a => by cases a.1))⟩
            case measure => simp [intOf]; omega
          · by_cases k0 : z.kd = 2
            · rw [decide_eq_true k0] at u0
              by_cases k1 : z.ix = (i : Int)
              · rw [decide_eq_true k1] at u1
                by_cases k2 : z.ce = v
                · rw [decide_eq_true k2] at u2
                  have HYS : Hid (hB (Y (2 * i + s)) 2 v = true /\ Y (2 * i + s) = z) := ⟨HPU.2 ⟨rfl, k0, k1, k2⟩, HYZ2 (HPU.2 ⟨rfl, k0, k1, k2⟩)⟩
                  obtain ⟨T, U, h1, h2⟩ := hcs.out
                  have h1' := owns_below h1 HB4.out
                  have hst := World.ownsRow.stored h1' i (.slice bo z.dn cb)
                  rw [rows_set] at hst
                  have ck : v'.cell? ⟨w.heap.size + 1, i, none⟩ = some (.slice (T i) (cdZ Y v i s i).dn (U i)) := by
                    have := h1'.cells (g := w.heap.size + 1) rfl i _ (Cod.rowsOf_get N T _ U i hlt)
                    rw [Addr.add_lit, Nat.zero_add] at this
                    exact this
                  have kf : v'.frozen? ⟨w.heap.size + 1, i, none⟩ = false := World.ownsRow.frozenAt h1' _
                  have HNX : Hid (∃ T U, (v'.setCell ⟨w.heap.size + 1, i, none⟩ (.slice bo z.dn cb)).ownsRow w0.heap.size 55 1 (.slice (some ⟨w.heap.size + 1, 0, none⟩) N N) N (Cod.rowsOf N T (fun j => (cdZ Y v i (s + 1) j).dn) U) /\ ∀ j, j < N -> OwU w1.heap.size (v'.setCell ⟨w.heap.size + 1, i, none⟩ (.slice bo z.dn cb)) (T j) (cdZ Y v i (s + 1) j).dn (U j) (cdZ Y v i (s + 1) j).D) := by
                    rw [cdZ_take hs2 HYS.out.1, HYS.out.2]
                    have hgg := HG.out
                    have hne : ∀ x, w1.heap.size <= x -> x < v'.heap.size -> (v'.setCell ⟨w.heap.size + 1, i, none⟩ (.slice bo z.dn cb)).heap[x]? = v'.heap[x]? := fun x h3 _ => heap_setCell_other _ _ _ _ (by show x ≠ w.heap.size + 1; omega)
                    refine ⟨Cod.put i bo T, Cod.put i cb U, by rw [put_dn]; exact hst.1, fun j hj => ?_⟩
                    by_cases e : j = i
                    · rw [e, Cod.put_at, Cod.put_at, Cod.put_at]
                      exact ((HGT.out.mono hss.out)).stay hne
                    · rw [Cod.put_ne _ _ e, Cod.put_ne _ _ e, Cod.put_ne _ _ e]
                      exact ((h2 j hj).below HB4.out).stay hne
                  have HB5 : Hid (Below w0.heap.size w0 (v'.setCell ⟨w.heap.size + 1, i, none⟩ (.slice bo z.dn cb)) /\ w1.heap.size <= (v'.setCell ⟨w.heap.size + 1, i, none⟩ (.slice bo z.dn cb)).heap.size) := by
                    have hz0 : w0.heap.size <= w.heap.size + 1 := by have := B1.out.size; have := (World.ownsRow.lt h1 (w.heap.size + 1) rfl).1; omega
                    refine ⟨HB3.out.setCell hz0 _, ?_⟩
                    have h7 := Nat.le_trans hss.out HB4.out.size
                    simpa [World.setCell] using h7
                  clear h1 h2 h1' hst
                  go_wp2_with fail
                  go_roundw
                  case rel => exact ⟨s + 1, by omega, by go_num, HB5.out.1, HB5.out.2, HNX.out⟩
                  case measure => simp [intOf]; omega
                · rw [decide_eq_false k2] at u2
                  go_wp2_with fail
                  go_roundw
                  case rel => exact ⟨s + 1, by omega, by go_num, HB3.out, Nat.le_trans hss.out HB4.out.size, HNO.out (HNF.out (fun a => k2 a.2.2.2))⟩
                  case measure => simp [intOf]; omega
              · rw [decide_eq_false k1] at u1
                go_wp2_with fail
                go_roundw
                case rel => exact ⟨s + 1, by omega, by go_num, HB3.out, Nat.le_trans hss.out HB4.out.size, HNO.out (HNF.out (fun a => k1 a.2.2.1))⟩
                case measure => simp [intOf]; omega
            · rw [decide_eq_false k0] at u0
              go_wp2_with fail
              go_roundw
              case rel => exact ⟨s + 1, by omega, by go_num, HB3.out, Nat.le_trans hss.out HB4.out.size, HNO.out (HNF.out (fun a => k0 a.2.1))⟩
              case measure => simp [intOf]; omega
        · obtain rfl : s = 2 := by omega
          obtain ⟨T, U, h1, h2⟩ := hcs.out
          have ck : wr.cell? ⟨w.heap.size + 1, i, none⟩ = some (.slice (T i) (cdT Y v 2 i).dn (U i)) := by
            have := h1.cells (g := w.heap.size + 1) rfl i _ (Cod.rowsOf_get N T _ U i hlt)
            rw [Addr.add_lit, Nat.zero_add, show cdZ Y v i 2 i = cdT Y v 2 i by unfold cdZ; rw [if_neg (Nat.lt_irrefl i), if_pos rfl]] at this
            exact this
          have HNX : Hid (∃ T U, wr.ownsRow w0.heap.size 55 1 (.slice (some ⟨w.heap.size + 1, 0, none⟩) N N) N (Cod.rowsOf N T (fun j => (cdZ Y v (i + 1) 0 j).dn) U) /\ ∀ j, j < N -> OwU w1.heap.size wr (T j) (cdZ Y v (i + 1) 0 j).dn (U j) (cdZ Y v (i + 1) 0 j).D) := by
            rw [<- cdZ_next]; exact ⟨T, U, h1, h2⟩
          clear h1 h2
          by_cases hz : (cdT Y v 2 i).dn = 0
          · have e1 : (((cdT Y v 2 i).dn : Nat) : Int) = 0 := by omega
            have e2 : ((((cdT Y v 2 i).dn : Nat) : Int) == 0) = true := by simpa using e1
            go_wp2_with fail
            go_ret
            exact ⟨false, rfl, (fun e => by cases e), below_then B0.out hbs.out⟩
          · have e2 : ((((cdT Y v 2 i).dn : Nat) : Int) == 0) = false := by simp; omega
            go_wp2_with fail
            go_roundw
            case rel => exact ⟨i + 1, by omega, by go_num, hbs.out, hss.out, HNX.out, fun j hj => by
              by_cases e : j = i
              · rw [e]; exact hz
              · exact hdn.out j (by omega)⟩
            case measure => simp [intOf]; omega
    · obtain rfl : i = N := by omega
      obtain ⟨T, U, h1, h2⟩ := hcs.out
      have hZ : ∀ j, j < i -> cdZ Y v i 0 j = cdT Y v 2 j := fun j hj => by unfold cdZ; rw [if_pos hj]
      have hlst : Cod.Lst wr (some ⟨w.heap.size + 1, 0, none⟩) i T U (fun j => (cdZ Y v i 0 j).dn) (fun j b => toK ((cdZ Y v i 0 j).D b)) := Cod.owns_lst h1 (fun j hj => rd_toK (h2 j hj).bec.rd)
      have HV := HVF.out wr _ i _ _ _ _ hlst (Nat.le_refl _)
      unfold Cod.Told2 at HV
      have HOK : Hid (∀ x : Bool, (Cod.okVer i (fun j => (cdZ Y v i 0 j).dn) k r && Cod.verB k.toNat r.toNat (Cod.len0 (fun j => (cdZ Y v i 0 j).dn) i) (fun j b => toK ((cdZ Y v i 0 j).D b))) = x -> x = true -> Cod.verB k.toNat r.toNat c.toNat (fun j b => toK ((cdT Y v 2 j).D b)) = true) := fun x e hx => by
        subst e
        obtain ⟨x1, x2⟩ := (Bool.and_eq_true _ _).mp hx
        obtain ⟨n1, n2, n3⟩ := HM.out
        unfold Cod.okVer at x1
        have hokc := ((Bool.and_eq_true _ _).mp ((Bool.and_eq_true _ _).mp x1).2).1
        have hcf : Cod.cnt (fun j => (cdZ Y v i 0 j).dn) i = i := Cod.cnt_full (fun j hj => by rw [hZ j hj]; exact hdn.out j hj)
        have hal := (Cod.alike_of (Cod.okC_true hokc).2 (by rw [hcf]; omega)).2.2 0 (by omega)
        have hlen : Cod.len0 (fun j => (cdZ Y v i 0 j).dn) i = c.toNat := by
          have h0 := hdn.out 0 (by omega)
          simp only [hZ 0 (by omega)] at hal
          rcases hal with e | e
          · exact absurd e h0
          · rw [<- e]
            rcases HDN.out 2 0 (by omega) with g | g
            · exact absurd g h0
            · exact g
        rw [hlen] at x2
        unfold Cod.verB Cod.eqAll at x2 ⊢
        refine decide_eq_true fun t ht => ?_
        have h3 := Cod.eqB_true.1 (of_decide_eq_true x2 t ht)
        refine Cod.eqB_true.2 fun b hb => ?_
        have h4 := h3 b hb
        simp only [hZ (k.toNat + t) (by omega)] at h4
        refine Eq.trans ?_ h4
        unfold Cod.par
        exact Cod.enc_congr (fun j hj => by rw [hZ j (by omega)]) _
      generalize (Cod.okVer i (fun j => (cdZ Y v i 0 j).dn) k r && Cod.verB k.toNat r.toNat (Cod.len0 (fun j => (cdZ Y v i 0 j).dn) i) (fun j b => toK ((cdZ Y v i 0 j).D b))) = x at HV HOK
      generalize Cod.errE (Cod.mayB k r) (Cod.okVer i (fun j => (cdZ Y v i 0 j).dn) k r) = er at HV
      have pq := L0.out wr hbw.out
      have s0 := pq.cell (i := 0) rfl
      have s1 := pq.cell (i := 1) rfl
      clear pq h1 h2 hlst hZ
      have e3 := int_beq2 er 0
      cases x
      · go_wp2_with fail
        refine HV.mono ?_
        rintro e wv ⟨rfl, hbv⟩
        go_wp2_with fail
        go_ret
        exact ⟨false, rfl, (fun e => by cases e), below_then (below_then B0.out hbw.out) hbv⟩
      · by_cases he : er = 0
        · subst he
          go_wp2_with fail
          refine HV.mono ?_
          rintro e wv ⟨rfl, hbv⟩
          go_wp2_with fail
          go_ret
          exact ⟨true, rfl, fun _ => ⟨hdn.out, HOK.out _ rfl rfl⟩, below_then (below_then B0.out hbw.out) hbv⟩
        · rw [decide_eq_false he] at e3
          go_wp2_with fail
          refine HV.mono ?_
          rintro e wv ⟨rfl, hbv⟩
          go_wp2_with fail
          go_ret
          exact ⟨false, rfl, (fun e => by cases e), below_then (below_then B0.out hbw.out) hbv⟩
end Go.Proofs.YtdmpiipllmjloaaGreat
