import Derived.Test.YtmoenmpbkockoaaGreatWj47
import Derived.Test.YtmoenmpbkockoaaGreatWj48
import Derived.Test.YtmoenmpbkockoaaGreatVj3
namespace Go.Proofs.YtmoenmpbkockoaaGreat
open Go.RowKit
def AnsSd (w : World) (k r c : Int) (N : Nat) (Y : Nat -> Sl) (kd : UInt8) (v : Int) (e : Ending) (w' : World) : Prop :=
  ∃ y : Bool, e = .returned (.bool y) /\ (y = true -> ∃ t, Snd k.toNat r.toNat N c Y kd v t) /\ Below w.heap.size w w'
theorem seen_step {Y : Nat -> Sl} {kd : UInt8} {v : Int} {t : Sl} {N i s : Nat} (h : ∀ j, j < 2 * N -> (j / 2 < i \/ (j / 2 = i /\ 1 - s < j % 2)) -> (Y j).kd = kd -> (Y j).st = v -> ∀ l, l < N -> (Y j).V l = t.V l) (hs : s < 2)
    (hn : (Y (2 * i + (1 - s))).kd = kd -> (Y (2 * i + (1 - s))).st = v -> ∀ l, l < N -> (Y (2 * i + (1 - s))).V l = t.V l) :
    ∀ j, j < 2 * N -> (j / 2 < i \/ (j / 2 = i /\ (1 : Int) - ((s + 1 : Nat) : Int) < ((j % 2 : Nat) : Int))) -> (Y j).kd = kd -> (Y j).st = v -> ∀ l, l < N -> (Y j).V l = t.V l := fun j hj hc => by
  by_cases e : j = 2 * i + (1 - s)
  · rw [e]; exact hn
  · refine h j hj ?_
    rcases hc with a | ⟨a, b⟩
    · exact .inl a
    · refine .inr ⟨a, ?_⟩
      omega
set_option maxHeartbeats 8000000 in
set_option maxRecDepth 100000 in
theorem sound_go {k r c q : Int} {N W : Nat} (h : Par k r c q N W 0) (w : World) (lo : Option Addr) (n cl : Nat) (o v : Int) (kd : UInt8) (hkd : kd = 1 \/ kd = 2) (hv : 1 <= v /\ v <= 1073741824) (G : Nat -> List UInt8)
    (hL : ∀ j, j < 2 * N -> (G j).length = 0 \/ (G j).length = sz N c)
    (HA : Hid (∀ u, Below w.heap.size w u -> Calls Tryz.prog 29 #[.agg #[.int .i64 k, .int .i64 r, .int .i64 c, .int .i64 q, .slice lo n cl], .int .i64 o] u fun e w' => ∃ lo' A' C', e = .returned (.tuple #[.slice lo' N N, .int .i64 0]) /\ Im.Im u.heap.size w' lo' (2 * N) A' C' G /\ Below u.heap.size u w')) :
    Calls Tryz.prog 30 #[.agg #[.int .i64 k, .int .i64 r, .int .i64 c, .int .i64 q, .slice lo n cl], .agg #[.int .i64 o, .int .u8 ((kd.toNat : Nat) : Int), .int .i64 v]] w (AnsSd w k r c N (yy N c (fun j => (G j).length) (fun j t => (G j).getD t 0)) kd v) := by
  have hle := h.le
  obtain ⟨L, hLe⟩ : ∃ L : Nat -> Nat, L = fun j => (G j).length := ⟨_, rfl⟩
  obtain ⟨F, hFe⟩ : ∃ F : Nat -> Nat -> UInt8, F = fun j t => (G j).getD t 0 := ⟨_, rfl⟩
  have hL' : ∀ j, j < 2 * N -> L j = 0 \/ L j = sz N c := fun j hj => by rw [hLe]; exact hL j hj
  rw [<- hLe, <- hFe]
  obtain ⟨w0, hw0⟩ : ∃ w0, w0 = w.alloc (.cells #[.int .i64 k, .int .i64 r, .int .i64 c, .int .i64 q, .slice lo n cl] 51) := ⟨_, rfl⟩
  obtain ⟨w1, hw1⟩ : ∃ w1, w1 = w0.alloc (.cells #[.int .i64 o, .int .u8 ((kd.toNat : Nat) : Int), .int .i64 v] 61) := ⟨_, rfl⟩
  have b0 : Below w.heap.size w w0 := by rw [hw0]; exact below_alloc _ _
  have b1 : Below w0.heap.size w0 w1 := by rw [hw1]; exact below_alloc _ _
  have z0 : w0.heap.size = w.heap.size + 1 := by rw [hw0]; simp
  have HBB : Hid (Below w.heap.size w w1) := below_then b0 b1
  have HQ : Hid (∀ u, Below w1.heap.size w1 u -> (u.cell? ⟨w.heap.size, 0, none⟩ = some (.int .i64 k) /\ u.cell? ⟨w.heap.size, 1, none⟩ = some (.int .i64 r) /\ u.cell? ⟨w.heap.size, 2, none⟩ = some (.int .i64 c) /\ u.cell? ⟨w.heap.size, 3, none⟩ = some (.int .i64 q)) /\ (u.cell? ⟨w.heap.size + 1, 1, none⟩ = some (.int .u8 ((kd.toNat : Nat) : Int)) /\ u.cell? ⟨w.heap.size + 1, 2, none⟩ = some (.int .i64 v))) := fun u hu => ⟨⟨blk_held hw0 (below_then b1 hu) 0 rfl, blk_held hw0 (below_then b1 hu) 1 rfl, blk_held hw0 (below_then b1 hu) 2 rfl, blk_held hw0 (below_then b1 hu) 3 rfl⟩, by rw [<- z0]; exact ⟨blk_held hw1 hu 1 rfl, blk_held hw1 hu 2 rfl⟩⟩
  have HVE := fun u ro A C (hr : Rw u ro N A L C F) => Vector_any h u ro N N A L C F hr kd v 0 (erK_ok hL' hkd hv) _ rfl
  unfold AnsVb at HVE
  rw [lenE_zero] at HVE
  obtain ⟨Y, hY⟩ : ∃ Y, Y = yy N c L F := ⟨_, rfl⟩
  obtain ⟨t, ht⟩ : ∃ t, t = tS (yy N c L F) kd v (2 * N) := ⟨_, rfl⟩
  rw [<- ht] at HVE
  have HT : Hid (tS Y kd v (2 * N) = t) := by show _ = _; rw [hY, ht]
  have HVN : Hid (t.ce ≠ 0 -> t.vn = N /\ ∀ i, i < N -> 1 <= t.V i) := fun hne => by
    rcases tS_is (v := v) hkd (yy_ok N c L F) (2 * N) (Nat.le_refl _) with ⟨e, _⟩ | ⟨j, hj, e, _, hIs, _⟩
    · rw [ht, e] at hne; exact absurd rfl hne
    · rw [ht, e]; exact ⟨(ok_of hIs.1).vn, fun i hi => ((ok_of hIs.1).V i hi).1⟩
  have HYK : Hid (∀ j, (Y j).kd = kd ↔ (isS N c (L j) (F j) = true /\ (zq N c L F j).kd = kd /\ (zq N c L F j).ix = ((j / 2 : Nat) : Int))) := fun j => by rw [hY]; exact yy_is hkd j
  have HYZ : Hid (∀ j, (Y j).kd = kd -> Y j = zq N c L F j) := fun j hj => by rw [hY] at hj ⊢; exact yy_zq hkd hj
  have HYD : Hid (∀ j, j < 2 * N -> (Y j).kd = kd -> (Y j).dn = c.toNat /\ (Y j).vn = N) := fun j hj hk => by
    rw [hY] at hk ⊢
    rcases yy_ok N c L F j hj with e | e
    · rw [e] at hk; rcases hkd with rfl | rfl <;> exact absurd hk (by decide)
    · have := (ok_of e.1).dn; exact ⟨by omega, (ok_of e.1).vn⟩
  have HM : Hid (1 <= k.toNat /\ k.toNat + r.toNat = N /\ 8 <= c.toNat) := by
    rcases h with ⟨hm, hW, hN, _⟩ | ⟨_, _, _, h0⟩
    · obtain ⟨h1, h2, h3, h4, h5, h6, h7, h8, h9⟩ := may_true hm
      exact ⟨by omega, by omega, by omega⟩
    · exact absurd h0 (by decide)
  have HVF : Hid (∀ u lo cl A' C' L' H', Cod.Lst u lo N A' C' L' H' -> N <= cl -> Calls Tryz.prog 55 #[.int .i64 k, .int .i64 r, .slice lo N cl] u (Cod.Told2 u (Cod.okVer N L' k r && Cod.verB k.toNat r.toNat (Cod.len0 L' N) H') (Cod.errE (Cod.mayB k r) (Cod.okVer N L' k r)))) := fun u lo cl A' C' L' H' hl hc => Cod.Verify_any u k r lo N cl A' C' L' H' hl hc
  have HPA : Hid (∀ u ro A C, Rw u ro N A L C F -> ∀ j, j < 2 * N -> Calls Tryz.prog 51 #[.agg #[.int .i64 k, .int .i64 r, .int .i64 c, .int .i64 q], .slice (A j) (L j) (C j)] u fun e w' => ∃ ao ca bo cb, e = .returned (.tuple #[.agg #[.int .u8 (((zq N c L F j).kd.toNat : Nat) : Int), .int .i64 (zq N c L F j).ix, .int .i64 (zq N c L F j).ce, .int .i64 (zq N c L F j).st, .slice ao (zq N c L F j).vn ca, .slice bo (zq N c L F j).dn cb], .bool (isS N c (L j) (F j)), .int .i64 0]) /\ Got u.heap.size w' (zq N c L F j) ao ca bo cb /\ Below u.heap.size u w') := fun u ro A C hr j hj => by
    refine (Parse_any h u _ _ _ _ (hr.bec j hj) 0 (by unfold erQ; rw [if_pos rfl, if_pos (hL' j hj)]) (isS N c (L j) (F j)) (by unfold isQ; simp) (zq N c L F j) rfl).mono ?_
    rintro e w' ⟨ao, ca, bo, cb, rfl, hg, hb⟩
    exact ⟨ao, ca, bo, cb, rfl, hg, hb⟩
  have hmk := run_make_row' (P := Tryz.prog) 49 75 (.slice none 0 0) 24 Tryz.underlying49 Cod.info34 rfl .i64 .i64 N (by omega) (by omega)
  rw [made_rows] at hmk
  have HOY : Hid (OkY N c Y) := by show OkY N c Y; rw [hY]; exact yy_ok N c L F
  unfold AnsSd
  rw [<- hY]
  have HRW : Hid (∀ B u lo' A' C', Im.Im B u lo' (2 * N) A' C' G -> Rw u lo' N A' L C' F) := fun B u lo' A' C' hI => by rw [hLe, hFe]; exact rw_of hI
  clear hL h hY ht hLe hFe
  go_enter Tryz.func30, Tryz.ntmps30
  go_wp2_with fail
  rw [<- hw0, <- hw1]
  clear hw0 hw1 z0 b0 b1
  refine (HA.out _ HBB.out).mono ?_
  rintro e wa ⟨lo', A', C', rfl, hI, ha⟩
  obtain ⟨⟨s0, s1, s2, s3⟩, s4, s5⟩ := HQ.out wa ha
  have hrw := HRW.out _ _ _ _ _ hI
  clear hI HA HRW
  go_wp2_with fail
  refine (HVE wa _ _ _ hrw).mono ?_
  rintro e wb ⟨vo, vc, rfl, hvv, hb⟩
  have HAB : Hid (Below w1.heap.size w1 wb) := below_then ha hb
  have HR : Hid (Rw wb lo' N A' L C' F) := hrw.below hb
  have HVV : Hid (Own wa.heap.size wb vo t.vn vc t.V) := hvv
  clear s0 s1 s2 s3 s4 s5 ha hb hrw hvv HVE
  by_cases hce : t.ce = 0
  · rw [show decide (True /\ t.ce ≠ 0) = false from decide_eq_false fun e => e.2 hce]
    go_wp2_with fail
    go_ret
    exact ⟨false, rfl, (fun e => by cases e), below_then HBB.out HAB.out⟩
  rw [show decide (True /\ t.ce ≠ 0) = true from decide_eq_true ⟨trivial, hce⟩]
  obtain ⟨hvn, hV1⟩ := HVN.out hce
  have HV1 : Hid (∀ i, i < N -> 1 <= t.V i) := hV1
  have HCE : Hid (t.ce ≠ 0) := hce
  rw [hvn] at HVV ⊢
  obtain ⟨wm, hwm⟩ : ∃ wm, wm = wb.alloc (.cells (Cod.rowsOf N (fun _ => none) (fun _ => 0) (fun _ => 0)).toArray 75) := ⟨_, rfl⟩
  have bm : Below wb.heap.size wb wm := by rw [hwm]; exact below_alloc _ _
  have HG : Hid (wm.heap.size = wb.heap.size + 1) := by show _ = _; rw [hwm]; simp
  have HBM : Hid (Below wb.heap.size wb wm) := bm
  have HO1 : Hid (wm.ownsRow wb.heap.size 75 1 (.slice (some ⟨wb.heap.size, 0, none⟩) N N) N (Cod.rowsOf N (fun _ => none) (fun _ => 0) (fun _ => 0))) := by
    show World.ownsRow _ _ _ _ _ _ _
    have := World.ownsRow_lit wb (Cod.rowsOf N (fun _ => none) (fun _ => 0) (fun _ => 0)).toArray (e := 75) (size := 1) N (Nat.le_refl _) (by unfold maxLen; omega) (by simp [Cod.rowsOf_length])
    rw [hwm]
    simpa using this
  have HQ2 : Hid (∀ u, Below wb.heap.size wb u -> (u.cell? ⟨w.heap.size, 0, none⟩ = some (.int .i64 k) /\ u.cell? ⟨w.heap.size, 1, none⟩ = some (.int .i64 r) /\ u.cell? ⟨w.heap.size, 2, none⟩ = some (.int .i64 c) /\ u.cell? ⟨w.heap.size, 3, none⟩ = some (.int .i64 q)) /\ (u.cell? ⟨w.heap.size + 1, 1, none⟩ = some (.int .u8 ((kd.toNat : Nat) : Int)) /\ u.cell? ⟨w.heap.size + 1, 2, none⟩ = some (.int .i64 v))) := fun u hu => HQ.out u (below_then HAB.out hu)
  have HBW : Hid (Below w.heap.size w wb) := below_then HBB.out HAB.out
  clear bm hce hvn hV1 HQ
  go_wp2_with fail
  rw [<- hwm]
  clear hwm hmk
  go_loopw [11] (fun y wr => ∃ i : Nat, i <= N /\ y = .int .i64 (i : Int) /\ Hid (Below wb.heap.size wb wr) /\ Hid (wm.heap.size <= wr.heap.size) /\ Hid (∃ T U, wr.ownsRow wb.heap.size 75 1 (.slice (some ⟨wb.heap.size, 0, none⟩) N N) N (Cod.rowsOf N T (fun j => (sdZ Y kd t i 0 j).dn) U) /\ ∀ j, j < N -> OwU wm.heap.size wr (T j) (sdZ Y kd t i 0 j).dn (U j) (sdZ Y kd t i 0 j).D) /\ Hid (∀ j, j < i -> (sdT Y kd t 2 j).dn ≠ 0) /\ Hid (∀ j, j < 2 * N -> j / 2 < i -> (Y j).kd = kd -> (Y j).st = v -> ∀ l, l < N -> (Y j).V l = t.V l)) (fun y _ => N - (intOf y).toNat)
  case atStart => exact ⟨0, Nat.zero_le _, rfl, HBM.out, Nat.le_refl _, ⟨fun _ => none, fun _ => 0, by rw [sdZ_zero]; exact HO1.out, fun j _ => by rw [sdZ_zero]; exact owu_nil _ _ _⟩, fun j hj => absurd hj (Nat.not_lt_zero j), fun j _ hj => absurd hj (Nat.not_lt_zero _)⟩
  case round =>
    obtain ⟨i, hi, rfl, hbw, hsw, hcs, hdn, hon⟩ := hrel
    by_cases hlt : i < N
    · obtain ⟨b, off, rfl, hcc⟩ := HR.out.at_ (by omega)
      have i1 : (0 : Int) <= (i : Int) := by omega
      have i2 : (i : Int) < (N : Int) := by omega
      have HCC : Hid (wb.cell? ⟨b, off + i * 2, none⟩ = some (.slice (A' (2 * i)) (L (2 * i)) (C' (2 * i))) /\ wb.cell? ⟨b, off + i * 2 + 1, none⟩ = some (.slice (A' (2 * i + 1)) (L (2 * i + 1)) (C' (2 * i + 1)))) := hcc i hlt
      have HBX : Hid (Below wb.heap.size wb wr /\ wm.heap.size <= wr.heap.size /\ (∃ T U, wr.ownsRow wb.heap.size 75 1 (.slice (some ⟨wb.heap.size, 0, none⟩) N N) N (Cod.rowsOf N T (fun j => (sdZ Y kd t i 0 j).dn) U) /\ ∀ j, j < N -> OwU wm.heap.size wr (T j) (sdZ Y kd t i 0 j).dn (U j) (sdZ Y kd t i 0 j).D)) := ⟨hbw.out, hsw.out, hcs.out⟩
      clear hcc
      go_wp2_with fail
      obtain ⟨wn, hwn⟩ : ∃ x, x = wr := ⟨wr, rfl⟩
      rw [<- hwn] at HBX ⊢
      clear hwn hbw hsw hcs wr
      go_loopw [12] (fun y wr => ∃ s : Nat, s <= 2 /\ y = .int .i64 ((1 : Int) - (s : Int)) /\ Hid (Below wb.heap.size wb wr) /\ Hid (wm.heap.size <= wr.heap.size) /\ Hid (∃ T U, wr.ownsRow wb.heap.size 75 1 (.slice (some ⟨wb.heap.size, 0, none⟩) N N) N (Cod.rowsOf N T (fun j => (sdZ Y kd t i s j).dn) U) /\ ∀ j, j < N -> OwU wm.heap.size wr (T j) (sdZ Y kd t i s j).dn (U j) (sdZ Y kd t i s j).D) /\ Hid (∀ j, j < 2 * N -> (j / 2 < i \/ (j / 2 = i /\ (1 : Int) - (s : Int) < ((j % 2 : Nat) : Int))) -> (Y j).kd = kd -> (Y j).st = v -> ∀ l, l < N -> (Y j).V l = t.V l)) (fun y _ => (intOf y + 1).toNat)
      case atStart => exact ⟨0, Nat.zero_le _, rfl, HBX.out.1, HBX.out.2.1, HBX.out.2.2, fun j hj hc => hon.out j hj (by rcases hc with a | ⟨_, a⟩ <;> omega)⟩
      case round =>
        obtain ⟨s, hs, rfl, hbs, hss, hcs, hos⟩ := hrel
        by_cases hs2 : s < 2
        · obtain ⟨s', hs'⟩ : ∃ s', s' = 1 - s := ⟨_, rfl⟩
          have hsv : (1 : Int) - (s : Int) = (s' : Int) := by omega
          have HSP : Hid (s' = 1 - s /\ s < 2) := ⟨hs', hs2⟩
          rw [hsv]
          have CHH : Hid (∀ v, Below wr.heap.size wr v -> (v.cell? ⟨w.heap.size, 0, none⟩ = some (.int .i64 k) /\ v.cell? ⟨w.heap.size, 1, none⟩ = some (.int .i64 r) /\ v.cell? ⟨w.heap.size, 2, none⟩ = some (.int .i64 c) /\ v.cell? ⟨w.heap.size, 3, none⟩ = some (.int .i64 q) /\ v.cell? ⟨b, off + i * 2 + s', none⟩ = some (.slice (A' (2 * i + s')) (L (2 * i + s')) (C' (2 * i + s'))))) := fun v hv => by
            obtain ⟨⟨p0, p1, p2, p3⟩, _⟩ := HQ2.out v (below_then hbs.out hv)
            refine ⟨p0, p1, p2, p3, ?_⟩
            refine held ?_ (below_then hbs.out hv)
            rcases (show s' = 0 \/ s' = 1 by omega) with e | e
            · rw [e]; exact HCC.out.1
            · rw [e]; exact HCC.out.2
          have j0 : (0 : Int) <= (s' : Int) := by omega
          have js : s' <= 1 := by omega
          have hP : Hid (∀ u, Below wr.heap.size wr u -> _) := fun u (hu : Below wr.heap.size wr u) => HPA.out u _ A' C' (HR.out.below (below_then hbs.out hu)) (2 * i + s') (by omega)
          have HJ2 : (2 * i + s') / 2 = i := by omega
          have HYK2 := HYK.out (2 * i + s')
          rw [HJ2] at HYK2
          have HYZ2 := HYZ.out (2 * i + s')
          have HYD2 := HYD.out (2 * i + s') (by omega)
          obtain ⟨z, hz⟩ : ∃ z, z = zq N c L F (2 * i + s') := ⟨_, rfl⟩
          obtain ⟨y, hy⟩ : ∃ y, y = isS N c (L (2 * i + s')) (F (2 * i + s')) := ⟨_, rfl⟩
          rw [<- hz] at hP HYK2 HYZ2
          rw [<- hy] at hP HYK2
          have HNB : Hid ((Y (2 * i + (1 - s))).kd ≠ kd -> hB (Y (2 * i + (1 - s))) kd (t.V i) = false) := fun a => by
            cases e : hB (Y (2 * i + (1 - s))) kd (t.V i)
            · rfl
            · exact absurd (hB_true e).2.1 a
          have HYK3 : Hid ((Y (2 * i + (1 - s))).kd = kd ↔ (y = true /\ z.kd = kd /\ z.ix = (i : Int))) := by rw [<- hs']; exact HYK2
          have HYZ3 : Hid ((Y (2 * i + (1 - s))).kd = kd -> Y (2 * i + (1 - s)) = z) := by rw [<- hs']; exact HYZ2
          have HYD3 : Hid ((Y (2 * i + (1 - s))).kd = kd -> (Y (2 * i + (1 - s))).dn = c.toNat /\ (Y (2 * i + (1 - s))).vn = N) := by rw [<- hs']; exact HYD2
          have HOS : Hid (∀ j, j < 2 * N -> (j / 2 < i \/ (j / 2 = i /\ 1 - s < j % 2)) -> (Y j).kd = kd -> (Y j).st = v -> ∀ l, l < N -> (Y j).V l = t.V l) := fun j hj hc => hos.out j hj (by rcases hc with a | ⟨a, b⟩; exact .inl a; exact .inr ⟨a, by omega⟩)
          have HNO : Hid ((Y (2 * i + (1 - s))).kd ≠ kd -> ∀ u, Below wr.heap.size wr u -> (∃ T U, u.ownsRow wb.heap.size 75 1 (.slice (some ⟨wb.heap.size, 0, none⟩) N N) N (Cod.rowsOf N T (fun j => (sdZ Y kd t i (s + 1) j).dn) U) /\ ∀ j, j < N -> OwU wm.heap.size u (T j) (sdZ Y kd t i (s + 1) j).dn (U j) (sdZ Y kd t i (s + 1) j).D)) := fun hb u hu => by
            obtain ⟨T, U, h1, h2⟩ := hcs.out
            rw [sdZ_skip hs2 (HNB.out hb)]
            exact ⟨T, U, owns_below h1 hu, fun j hj => (h2 j hj).below hu⟩
          have HSE : Hid ((Y (2 * i + (1 - s))).kd ≠ kd -> ∀ j, j < 2 * N -> (j / 2 < i \/ (j / 2 = i /\ (1 : Int) - ((s + 1 : Nat) : Int) < ((j % 2 : Nat) : Int))) -> (Y j).kd = kd -> (Y j).st = v -> ∀ l, l < N -> (Y j).V l = t.V l) := fun hb => seen_step HOS.out hs2 (fun a => absurd a hb)
          clear hz hy HJ2 HYK2 HYZ2 HYD2 hs' hsv
          go_wp2_with fail
          refine sound_reg wr k r c q w.heap.size b off N N i s' (by have := HSP.out; omega) i1 i2 (A' (2 * i + s')) (L (2 * i + s')) (C' (2 * i + s')) z y 0 _ _ _ _ _ _ _ _ _ _ _ _ _ _ _ _ _ _ _ _ _ _ _ _ _ _ _ _ _ _ _ _ _ _ _ _ _ _ _ _ _ _ _ _ _ _ _ _ _ _ _ _ _ _ _ _ _ _ _ _ _ _ _ _ _ _ _ _ _ _ _ _ _ _ _ _ _ _ _ _ _ _ _ _ _ _ _ _ _ _ _ _ _ _ _ _ _ _ _ _ _ _ _ _ _ _ _ _ _ _ _ _ _ _ _ _ _ _ _ _ _ _ _ _ _ _ _ _ _ _ _ CHH hP _ (fun v' g ao ca bo cb hb3 hat hgot => ?_)
          have HBv0 : Hid (Below wr.heap.size wr v') := hb3
          have HB3 : Hid (Below wb.heap.size wb v' /\ wm.heap.size <= v'.heap.size) := ⟨below_then hbs.out hb3, Nat.le_trans hss.out hb3.size⟩
          have c0 := hat.cell (i := 0) rfl
          have c1 := hat.cell (i := 1) rfl
          have c2 := hat.cell (i := 2) rfl
          have c3 := hat.cell (i := 3) rfl
          have c4 := hat.cell (i := 4) rfl
          have c5 := hat.cell (i := 5) rfl
          obtain ⟨_, q1, q2⟩ := HQ2.out v' HB3.out.1
          have u0 := kd_beq z.kd kd
          have u0' : ((((z.kd.toNat : Nat) : Int)) != ((kd.toNat : Nat) : Int)) = !decide (z.kd = kd) := by unfold bne; rw [u0]
          have u1 := int_beq2 z.ix (i : Int)
          have u1' : (z.ix != (i : Int)) = !decide (z.ix = (i : Int)) := by unfold bne; rw [u1]
          have HGT : Hid (OwU wr.heap.size v' bo z.dn cb z.D) := hgot.bec
          have HGV : Hid (Own wr.heap.size v' ao z.vn ca z.V) := hgot.vec
          have HAT : Hid (At wr v' g #[.int .u8 ((z.kd.toNat : Nat) : Int), .int .i64 z.ix, .int .i64 z.ce, .int .i64 z.st, .slice ao z.vn ca, .slice bo z.dn cb] 94) := hat
          clear hb3 hP hgot hat CHH
          cases y
          · have HN : Hid ((Y (2 * i + (1 - s))).kd ≠ kd) := fun e => by cases (HYK3.out.1 e).1
            clear c2 c3 c4 c5
            go_wp2_with fail
            go_roundw
            case rel => exact ⟨s + 1, by omega, by have := HSP.out; go_num, HB3.out.1, HB3.out.2, HNO.out HN.out _ HBv0.out, HSE.out HN.out⟩
            case measure => simp [intOf]
          · by_cases k0 : z.kd = kd
            · rw [decide_eq_true k0] at u0 u0'
              by_cases k1 : z.ix = (i : Int)
              · rw [decide_eq_true k1] at u1 u1'
                have HYS : Hid ((Y (2 * i + (1 - s))).kd = kd /\ Y (2 * i + (1 - s)) = z) := ⟨HYK3.out.2 ⟨rfl, k0, k1⟩, HYZ3.out (HYK3.out.2 ⟨rfl, k0, k1⟩)⟩
                have hzn : z.vn = N := by have h5 := (HYD3.out HYS.out.1).2; rw [HYS.out.2] at h5; exact h5
                rw [hzn] at HGV c4
                by_cases k3 : z.st = v
                · have u3 : (z.st == v) = true := by simpa using k3
                  have HSM := same_any v' ao vo N ca vc z.V t.V HGV.out.vec (HVV.out.vec.below HB3.out.1) (by omega)
                  by_cases k4 : ∀ l, l < N -> z.V l = t.V l
                  · rw [decide_eq_true k4] at HSM
                    have HSEE : Hid (∀ j, j < 2 * N -> (j / 2 < i \/ (j / 2 = i /\ (1 : Int) - ((s + 1 : Nat) : Int) < ((j % 2 : Nat) : Int))) -> (Y j).kd = kd -> (Y j).st = v -> ∀ l, l < N -> (Y j).V l = t.V l) := seen_step HOS.out hs2 (fun _ _ l hl => by rw [HYS.out.2]; exact k4 l hl)
                    clear k4
                    go_wp2_with fail
                    refine HSM.mono ?_
                    rintro e v2 ⟨rfl, hv2⟩
                    have HBv : Hid (Below v'.heap.size v' v2) := hv2
                    clear c0 c1 c2 c3 c4 c5 q1 q2 HSM hv2
                    have c2 := (HAT.out.below HBv.out).cell (i := 2) rfl
                    have c5 := (HAT.out.below HBv.out).cell (i := 5) rfl
                    have HBw : Hid (Below wr.heap.size wr v2) := below_then HBv0.out HBv.out
                    obtain ⟨gv, hgv, cv0⟩ : ∃ gv, vo = some ⟨gv, 0, none⟩ /\ v2.cell? ⟨gv, i, none⟩ = some (.int .i64 (t.V i)) := by
                      obtain ⟨gv, e, _, _⟩ := HVV.out.at_ (by omega)
                      subst e
                      exact ⟨gv, rfl, held (HVV.out.cell hlt) (below_then hbs.out HBw.out)⟩
                    subst hgv
                    obtain ⟨ti, hti⟩ : ∃ ti, ti = t.V i := ⟨_, rfl⟩
                    rw [<- hti] at cv0
                    have HTI : Hid (ti = t.V i) := hti
                    clear hti
                    by_cases k2 : z.ce = ti
                    · have u2 : (z.ce == ti) = true := by simpa using k2
                      have HYB : Hid (hB (Y (2 * i + (1 - s))) kd (t.V i) = true) := hB_of (by have := HV1.out i hlt; omega) HYS.out.1 (by rw [HYS.out.2, k2]; exact HTI.out)
                      go_wp2_with fail
                      go_big_quiet (fail)
                      obtain ⟨x, hx⟩ : ∃ x, x = v2.drewN nq := ⟨_, rfl⟩
                      have bx : Below v2.heap.size v2 x := by rw [hx]; exact below_drewN _ _ _
                      rw [<- hx]
                      have HBx : Hid (Below wr.heap.size wr x) := below_then HBw.out bx
                      have d5 := held c5 bx
                      obtain ⟨T, U, h1, h2⟩ := hcs.out
                      have h1' := owns_below h1 HBx.out
                      have hst := World.ownsRow.stored h1' i (.slice bo z.dn cb)
                      rw [rows_set] at hst
                      have ck : x.cell? ⟨wb.heap.size, i, none⟩ = some (.slice (T i) (sdZ Y kd t i s i).dn (U i)) := by
                        have := h1'.cells (g := wb.heap.size) rfl i _ (Cod.rowsOf_get N T _ U i hlt)
                        rw [Addr.add_lit, Nat.zero_add] at this
                        exact this
                      have kf : x.frozen? ⟨wb.heap.size, i, none⟩ = false := World.ownsRow.frozenAt h1' _
                      have HNX : Hid (∃ T U, (x.setCell ⟨wb.heap.size, i, none⟩ (.slice bo z.dn cb)).ownsRow wb.heap.size 75 1 (.slice (some ⟨wb.heap.size, 0, none⟩) N N) N (Cod.rowsOf N T (fun j => (sdZ Y kd t i (s + 1) j).dn) U) /\ ∀ j, j < N -> OwU wm.heap.size (x.setCell ⟨wb.heap.size, i, none⟩ (.slice bo z.dn cb)) (T j) (sdZ Y kd t i (s + 1) j).dn (U j) (sdZ Y kd t i (s + 1) j).D) := by
                        rw [sdZ_take hs2 HYB.out, HYS.out.2]
                        have hgg := HG.out
                        have hne : ∀ y, wm.heap.size <= y -> y < x.heap.size -> (x.setCell ⟨wb.heap.size, i, none⟩ (.slice bo z.dn cb)).heap[y]? = x.heap[y]? := fun y h3 _ => heap_setCell_other _ _ _ _ (by show y ≠ wb.heap.size; omega)
                        refine ⟨Cod.put i bo T, Cod.put i cb U, by rw [put_dn]; exact hst.1, fun j hj => ?_⟩
                        by_cases e : j = i
                        · rw [e, Cod.put_at, Cod.put_at, Cod.put_at]
                          exact (((HGT.out.below (below_then HBv.out bx)).mono hss.out)).stay hne
                        · rw [Cod.put_ne _ _ e, Cod.put_ne _ _ e, Cod.put_ne _ _ e]
                          exact ((h2 j hj).below HBx.out).stay hne
                      have HB5 : Hid (Below wb.heap.size wb (x.setCell ⟨wb.heap.size, i, none⟩ (.slice bo z.dn cb)) /\ wm.heap.size <= (x.setCell ⟨wb.heap.size, i, none⟩ (.slice bo z.dn cb)).heap.size) := by
                        refine ⟨(below_then hbs.out HBx.out).setCell (Nat.le_refl _) _, ?_⟩
                        have h7 := Nat.le_trans hss.out HBx.out.size
                        simpa [World.setCell] using h7
                      clear h1 h2 h1' hst hx bx
                      go_wp2_with fail
                      go_roundw
                      case rel => exact ⟨s + 1, by omega, by have := HSP.out; go_num, HB5.out.1, HB5.out.2, HNX.out, HSEE.out⟩
                      case measure => simp [intOf]
                    · have u2 : (z.ce == ti) = false := by simpa using k2
                      have HYB : Hid (hB (Y (2 * i + (1 - s))) kd (t.V i) = false) := hB_no (by rw [HYS.out.2, <- HTI.out]; exact k2)
                      go_wp2_with fail
                      go_big_quiet (fail)
                      obtain ⟨x, hx⟩ : ∃ x, x = v2.drewN nq := ⟨_, rfl⟩
                      have bx : Below v2.heap.size v2 x := by rw [hx]; exact below_drewN _ _ _
                      rw [<- hx]
                      have HBx : Hid (Below wr.heap.size wr x) := below_then HBw.out bx
                      have HNX : Hid (∃ T U, x.ownsRow wb.heap.size 75 1 (.slice (some ⟨wb.heap.size, 0, none⟩) N N) N (Cod.rowsOf N T (fun j => (sdZ Y kd t i (s + 1) j).dn) U) /\ ∀ j, j < N -> OwU wm.heap.size x (T j) (sdZ Y kd t i (s + 1) j).dn (U j) (sdZ Y kd t i (s + 1) j).D) := by
                        obtain ⟨T, U, h1, h2⟩ := hcs.out
                        rw [sdZ_skip hs2 HYB.out]
                        exact ⟨T, U, owns_below h1 HBx.out, fun j hj => (h2 j hj).below HBx.out⟩
                      have HB5 : Hid (Below wb.heap.size wb x /\ wm.heap.size <= x.heap.size) := ⟨below_then hbs.out HBx.out, Nat.le_trans hss.out HBx.out.size⟩
                      clear hx bx
                      go_wp2_with fail
                      go_roundw
                      case rel => exact ⟨s + 1, by omega, by have := HSP.out; go_num, HB5.out.1, HB5.out.2, HNX.out, HSEE.out⟩
                      case measure => simp [intOf]
                  · rw [decide_eq_false k4] at HSM
                    go_wp2_with fail
                    refine HSM.mono ?_
                    rintro e v2 ⟨rfl, hv2⟩
                    clear c0 c1 c2 c3 c4 c5 q1 q2 HSM
                    go_wp2_with fail
                    go_ret
                    exact ⟨false, rfl, (fun e => by cases e), below_then HBW.out (below_then HB3.out.1 hv2)⟩
                · have u3 : (z.st == v) = false := by simpa using k3
                  have HSEE : Hid (∀ j, j < 2 * N -> (j / 2 < i \/ (j / 2 = i /\ (1 : Int) - ((s + 1 : Nat) : Int) < ((j % 2 : Nat) : Int))) -> (Y j).kd = kd -> (Y j).st = v -> ∀ l, l < N -> (Y j).V l = t.V l) := seen_step HOS.out hs2 (fun _ e => absurd (by rw [<- HYS.out.2]; exact e) k3)
                  have HBv : Hid (Below v'.heap.size v' v') := Below.refl _ _
                  have HBw : Hid (Below wr.heap.size wr v') := HBv0.out
                  obtain ⟨gv, hgv, cv0⟩ : ∃ gv, vo = some ⟨gv, 0, none⟩ /\ v'.cell? ⟨gv, i, none⟩ = some (.int .i64 (t.V i)) := by
                    obtain ⟨gv, e, _, _⟩ := HVV.out.at_ (by omega)
                    subst e
                    exact ⟨gv, rfl, held (HVV.out.cell hlt) (below_then hbs.out HBw.out)⟩
                  subst hgv
                  obtain ⟨ti, hti⟩ : ∃ ti, ti = t.V i := ⟨_, rfl⟩
                  rw [<- hti] at cv0
                  have HTI : Hid (ti = t.V i) := hti
                  clear hti
                  by_cases k2 : z.ce = ti
                  · have u2 : (z.ce == ti) = true := by simpa using k2
                    have HYB : Hid (hB (Y (2 * i + (1 - s))) kd (t.V i) = true) := hB_of (by have := HV1.out i hlt; omega) HYS.out.1 (by rw [HYS.out.2, k2]; exact HTI.out)
                    go_wp2_with fail
                    go_big_quiet (fail)
                    obtain ⟨x, hx⟩ : ∃ x, x = v'.drewN nq := ⟨_, rfl⟩
                    have bx : Below v'.heap.size v' x := by rw [hx]; exact below_drewN _ _ _
                    rw [<- hx]
                    have HBx : Hid (Below wr.heap.size wr x) := below_then HBw.out bx
                    have d5 := held c5 bx
                    obtain ⟨T, U, h1, h2⟩ := hcs.out
                    have h1' := owns_below h1 HBx.out
                    have hst := World.ownsRow.stored h1' i (.slice bo z.dn cb)
                    rw [rows_set] at hst
                    have ck : x.cell? ⟨wb.heap.size, i, none⟩ = some (.slice (T i) (sdZ Y kd t i s i).dn (U i)) := by
                      have := h1'.cells (g := wb.heap.size) rfl i _ (Cod.rowsOf_get N T _ U i hlt)
                      rw [Addr.add_lit, Nat.zero_add] at this
                      exact this
                    have kf : x.frozen? ⟨wb.heap.size, i, none⟩ = false := World.ownsRow.frozenAt h1' _
                    have HNX : Hid (∃ T U, (x.setCell ⟨wb.heap.size, i, none⟩ (.slice bo z.dn cb)).ownsRow wb.heap.size 75 1 (.slice (some ⟨wb.heap.size, 0, none⟩) N N) N (Cod.rowsOf N T (fun j => (sdZ Y kd t i (s + 1) j).dn) U) /\ ∀ j, j < N -> OwU wm.heap.size (x.setCell ⟨wb.heap.size, i, none⟩ (.slice bo z.dn cb)) (T j) (sdZ Y kd t i (s + 1) j).dn (U j) (sdZ Y kd t i (s + 1) j).D) := by
                      rw [sdZ_take hs2 HYB.out, HYS.out.2]
                      have hgg := HG.out
                      have hne : ∀ y, wm.heap.size <= y -> y < x.heap.size -> (x.setCell ⟨wb.heap.size, i, none⟩ (.slice bo z.dn cb)).heap[y]? = x.heap[y]? := fun y h3 _ => heap_setCell_other _ _ _ _ (by show y ≠ wb.heap.size; omega)
                      refine ⟨Cod.put i bo T, Cod.put i cb U, by rw [put_dn]; exact hst.1, fun j hj => ?_⟩
                      by_cases e : j = i
                      · rw [e, Cod.put_at, Cod.put_at, Cod.put_at]
                        exact (((HGT.out.below (below_then HBv.out bx)).mono hss.out)).stay hne
                      · rw [Cod.put_ne _ _ e, Cod.put_ne _ _ e, Cod.put_ne _ _ e]
                        exact ((h2 j hj).below HBx.out).stay hne
                    have HB5 : Hid (Below wb.heap.size wb (x.setCell ⟨wb.heap.size, i, none⟩ (.slice bo z.dn cb)) /\ wm.heap.size <= (x.setCell ⟨wb.heap.size, i, none⟩ (.slice bo z.dn cb)).heap.size) := by
                      refine ⟨(below_then hbs.out HBx.out).setCell (Nat.le_refl _) _, ?_⟩
                      have h7 := Nat.le_trans hss.out HBx.out.size
                      simpa [World.setCell] using h7
                    clear h1 h2 h1' hst hx bx
                    go_wp2_with fail
                    go_roundw
                    case rel => exact ⟨s + 1, by omega, by have := HSP.out; go_num, HB5.out.1, HB5.out.2, HNX.out, HSEE.out⟩
                    case measure => simp [intOf]
                  · have u2 : (z.ce == ti) = false := by simpa using k2
                    have HYB : Hid (hB (Y (2 * i + (1 - s))) kd (t.V i) = false) := hB_no (by rw [HYS.out.2, <- HTI.out]; exact k2)
                    go_wp2_with fail
                    go_big_quiet (fail)
                    obtain ⟨x, hx⟩ : ∃ x, x = v'.drewN nq := ⟨_, rfl⟩
                    have bx : Below v'.heap.size v' x := by rw [hx]; exact below_drewN _ _ _
                    rw [<- hx]
                    have HBx : Hid (Below wr.heap.size wr x) := below_then HBw.out bx
                    have HNX : Hid (∃ T U, x.ownsRow wb.heap.size 75 1 (.slice (some ⟨wb.heap.size, 0, none⟩) N N) N (Cod.rowsOf N T (fun j => (sdZ Y kd t i (s + 1) j).dn) U) /\ ∀ j, j < N -> OwU wm.heap.size x (T j) (sdZ Y kd t i (s + 1) j).dn (U j) (sdZ Y kd t i (s + 1) j).D) := by
                      obtain ⟨T, U, h1, h2⟩ := hcs.out
                      rw [sdZ_skip hs2 HYB.out]
                      exact ⟨T, U, owns_below h1 HBx.out, fun j hj => (h2 j hj).below HBx.out⟩
                    have HB5 : Hid (Below wb.heap.size wb x /\ wm.heap.size <= x.heap.size) := ⟨below_then hbs.out HBx.out, Nat.le_trans hss.out HBx.out.size⟩
                    clear hx bx
                    go_wp2_with fail
                    go_roundw
                    case rel => exact ⟨s + 1, by omega, by have := HSP.out; go_num, HB5.out.1, HB5.out.2, HNX.out, HSEE.out⟩
                    case measure => simp [intOf]
              · rw [decide_eq_false k1] at u1 u1'
                have HN : Hid ((Y (2 * i + (1 - s))).kd ≠ kd) := fun e => k1 (HYK3.out.1 e).2.2
                clear c2 c3 c4 c5
                go_wp2_with fail
                go_roundw
                case rel => exact ⟨s + 1, by omega, by have := HSP.out; go_num, HB3.out.1, HB3.out.2, HNO.out HN.out _ HBv0.out, HSE.out HN.out⟩
                case measure => simp [intOf]
            · rw [decide_eq_false k0] at u0 u0'
              have HN : Hid ((Y (2 * i + (1 - s))).kd ≠ kd) := fun e => k0 (HYK3.out.1 e).2.1
              clear c2 c3 c4 c5
              go_wp2_with fail
              go_roundw
              case rel => exact ⟨s + 1, by omega, by have := HSP.out; go_num, HB3.out.1, HB3.out.2, HNO.out HN.out _ HBv0.out, HSE.out HN.out⟩
              case measure => simp [intOf]
        · obtain rfl : s = 2 := by omega
          obtain ⟨T, U, h1, h2⟩ := hcs.out
          have ck : wr.cell? ⟨wb.heap.size, i, none⟩ = some (.slice (T i) (sdT Y kd t 2 i).dn (U i)) := by
            have := h1.cells (g := wb.heap.size) rfl i _ (Cod.rowsOf_get N T _ U i hlt)
            rw [Addr.add_lit, Nat.zero_add, show sdZ Y kd t i 2 i = sdT Y kd t 2 i by unfold sdZ; rw [if_neg (Nat.lt_irrefl i), if_pos rfl]] at this
            exact this
          have HNX : Hid (∃ T U, wr.ownsRow wb.heap.size 75 1 (.slice (some ⟨wb.heap.size, 0, none⟩) N N) N (Cod.rowsOf N T (fun j => (sdZ Y kd t (i + 1) 0 j).dn) U) /\ ∀ j, j < N -> OwU wm.heap.size wr (T j) (sdZ Y kd t (i + 1) 0 j).dn (U j) (sdZ Y kd t (i + 1) 0 j).D) := by
            rw [<- sdZ_next]; exact ⟨T, U, h1, h2⟩
          clear h1 h2
          by_cases hz : (sdT Y kd t 2 i).dn = 0
          · have e1 : (((sdT Y kd t 2 i).dn : Nat) : Int) = 0 := by omega
            have e2 : ((((sdT Y kd t 2 i).dn : Nat) : Int) == 0) = true := by simpa using e1
            go_wp2_with fail
            go_ret
            exact ⟨false, rfl, (fun e => by cases e), below_then HBW.out hbs.out⟩
          · have e2 : ((((sdT Y kd t 2 i).dn : Nat) : Int) == 0) = false := by simp; omega
            go_wp2_with fail
            go_roundw
            case rel => exact ⟨i + 1, by omega, by go_num, hbs.out, hss.out, HNX.out, (fun j hj => by
              by_cases e : j = i
              · rw [e]; exact hz
              · exact hdn.out j (by omega)), fun j hj hji => hos.out j hj (by
                by_cases e : j / 2 < i
                · exact .inl e
                · exact .inr ⟨by omega, by omega⟩)⟩
            case measure => simp [intOf]; omega
    · obtain rfl : i = N := by omega
      obtain ⟨T, U, h1, h2⟩ := hcs.out
      have hZ : ∀ j, j < i -> sdZ Y kd t i 0 j = sdT Y kd t 2 j := fun j hj => by unfold sdZ; rw [if_pos hj]
      have hlst : Cod.Lst wr (some ⟨wb.heap.size, 0, none⟩) i T U (fun j => (sdZ Y kd t i 0 j).dn) (fun j b => toK ((sdZ Y kd t i 0 j).D b)) := Cod.owns_lst h1 (fun j hj => rd_toK (h2 j hj).bec.rd)
      have HV := HVF.out wr _ i _ _ _ _ hlst (Nat.le_refl _)
      unfold Cod.Told2 at HV
      have HDN : Hid (∀ j, j < i -> (sdT Y kd t 2 j).dn = 0 \/ (sdT Y kd t 2 j).dn = c.toNat) := fun j hj => by
        rw [sdT_zz HCE.out]
        rcases zz_is (kd := kd) HOY.out t hj with e | ⟨e, _⟩
        · rw [e]; exact .inl rfl
        · have := (ok_of e.1).dn; exact .inr (by omega)
      have HOK : Hid (∀ x : Bool, (Cod.okVer i (fun j => (sdZ Y kd t i 0 j).dn) k r && Cod.verB k.toNat r.toNat (Cod.len0 (fun j => (sdZ Y kd t i 0 j).dn) i) (fun j b => toK ((sdZ Y kd t i 0 j).D b))) = x -> x = true -> Cod.verB k.toNat r.toNat c.toNat (fun j b => toK ((zz Y kd t j).D b)) = true) := fun x e hx => by
        subst e
        obtain ⟨x1, x2⟩ := (Bool.and_eq_true _ _).mp hx
        obtain ⟨n1, n2, n3⟩ := HM.out
        unfold Cod.okVer at x1
        have hokc := ((Bool.and_eq_true _ _).mp ((Bool.and_eq_true _ _).mp x1).2).1
        have hcf : Cod.cnt (fun j => (sdZ Y kd t i 0 j).dn) i = i := Cod.cnt_full (fun j hj => by rw [hZ j hj]; exact hdn.out j hj)
        have hal := (Cod.alike_of (Cod.okC_true hokc).2 (by rw [hcf]; omega)).2.2 0 (by omega)
        have hlen : Cod.len0 (fun j => (sdZ Y kd t i 0 j).dn) i = c.toNat := by
          have h0 := hdn.out 0 (by omega)
          simp only [hZ 0 (by omega)] at hal
          rcases hal with e | e
          · exact absurd e h0
          · rw [<- e]
            rcases HDN.out 0 (by omega) with g | g
            · exact absurd g h0
            · exact g
        rw [hlen] at x2
        unfold Cod.verB Cod.eqAll at x2 ⊢
        refine decide_eq_true fun u hu => ?_
        have h3 := Cod.eqB_true.1 (of_decide_eq_true x2 u hu)
        refine Cod.eqB_true.2 fun b hb => ?_
        have h4 := h3 b hb
        simp only [hZ (k.toNat + u) (by omega), sdT_zz HCE.out] at h4
        refine Eq.trans ?_ h4
        unfold Cod.par
        exact Cod.enc_congr (fun j hj => by rw [hZ j (by omega), sdT_zz HCE.out]) _
      have HALL : Hid (∀ j, j < i -> (zz Y kd t j).ce ≠ 0) := fun j hj => by
        have h5 := hdn.out j hj
        rw [sdT_zz HCE.out] at h5
        rcases zz_is (kd := kd) HOY.out t hj with e | ⟨e, _⟩
        · rw [e] at h5; exact absurd rfl h5
        · exact (ok_of e.1).ne
      generalize (Cod.okVer i (fun j => (sdZ Y kd t i 0 j).dn) k r && Cod.verB k.toNat r.toNat (Cod.len0 (fun j => (sdZ Y kd t i 0 j).dn) i) (fun j b => toK ((sdZ Y kd t i 0 j).D b))) = x at HV HOK
      generalize Cod.errE (Cod.mayB k r) (Cod.okVer i (fun j => (sdZ Y kd t i 0 j).dn) k r) = er at HV
      obtain ⟨⟨s0, s1, _, _⟩, _⟩ := HQ2.out wr hbw.out
      clear h1 h2 hlst hZ
      have e3 := int_beq2 er 0
      cases x
      · go_wp2_with fail
        refine HV.mono ?_
        rintro e wv ⟨rfl, hbv⟩
        go_wp2_with fail
        go_ret
        exact ⟨false, rfl, (fun e => by cases e), below_then HBW.out (below_then hbw.out hbv)⟩
      · by_cases he : er = 0
        · subst he
          go_wp2_with fail
          refine HV.mono ?_
          rintro e wv ⟨rfl, hbv⟩
          go_wp2_with fail
          go_ret
          exact ⟨true, rfl, fun _ => ⟨t, HT.out, HCE.out, fun j hj => hon.out j hj (by omega), HALL.out, HOK.out _ rfl rfl⟩, below_then HBW.out (below_then hbw.out hbv)⟩
        · rw [decide_eq_false he] at e3
          go_wp2_with fail
          refine HV.mono ?_
          rintro e wv ⟨rfl, hbv⟩
          go_wp2_with fail
          go_ret
          exact ⟨false, rfl, (fun e => by cases e), below_then HBW.out (below_then hbw.out hbv)⟩
end Go.Proofs.YtmoenmpbkockoaaGreat
