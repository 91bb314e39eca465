import Derived.Test.YtmoenmpbkockoaaGreatWj5
namespace Go.Proofs.YtmoenmpbkockoaaGreat.Im
open Go.RowKit
def rowF (Q o : Nat) (F : Nat -> List UInt8) (j : Nat) : List UInt8 := F ((j / 2 * Q + o) * 2 + j % 2)
theorem rowF_0 (Q o : Nat) (F : Nat -> List UInt8) (i : Nat) : rowF Q o F (2 * i) = F ((i * Q + o) * 2) := by unfold rowF; rw [show 2 * i / 2 = i by omega, show 2 * i % 2 = 0 by omega, Nat.add_zero]
theorem rowF_1 (Q o : Nat) (F : Nat -> List UInt8) (i : Nat) : rowF Q o F (2 * i + 1) = F ((i * Q + o) * 2 + 1) := by unfold rowF; rw [show (2 * i + 1) / 2 = i by omega, show (2 * i + 1) % 2 = 1 by omega]
def Rww (k r c q : Int) (n : Nat) (F : Nat -> List UInt8) (o x : Int) (n' : Nat) (G : Nat -> List UInt8) : Prop :=
  ∃ y N Q S, Ck k r c q n F y N Q S /\ ((y = 0 /\ 0 <= o /\ o < (Q : Int) /\ x = 0 /\ n' = N /\ G = rowF Q o.toNat F) \/ ((n' = 0 /\ G = fun _ => []) /\ ((¬ y = 0 /\ x = y) \/ (y = 0 /\ ¬ (0 <= o /\ o < (Q : Int)) /\ x = 2))))
theorem rww_ex (k r c q : Int) (n : Nat) (F : Nat -> List UInt8) (o : Int) : ∃ x n' G, Rww k r c q n F o x n' G := by
  obtain ⟨y, N, Q, S, h⟩ := ck_ex k r c q n F
  by_cases hy : y = 0
  · by_cases ho : 0 <= o /\ o < (Q : Int)
    · exact ⟨0, N, _, y, N, Q, S, h, .inl ⟨hy, ho.1, ho.2, rfl, rfl, rfl⟩⟩
    · exact ⟨2, 0, _, y, N, Q, S, h, .inr ⟨⟨rfl, rfl⟩, .inr ⟨hy, ho, rfl⟩⟩⟩
  · exact ⟨y, 0, _, y, N, Q, S, h, .inr ⟨⟨rfl, rfl⟩, .inl ⟨hy, rfl⟩⟩⟩
theorem made_pairs (n i : Nat) (h : i < n) : (madeCells #[Value.slice none 0 0, .slice none 0 0] n)[i]? = some (.slice none 0 0) := by
  have : i % 2 = 0 \/ i % 2 = 1 := by omega
  unfold madeCells
  rcases this with e | e <;> simp [h, e]
section
variable {k r c q : Int} {n : Nat} {F : Nat -> List UInt8} {N Q S : Nat}
set_option maxHeartbeats 1000000 in
set_option maxRecDepth 100000 in
theorem Row_e1 {x : Int} (hck : Ck k r c q n F x N Q S) (hx : ¬ x = 0) (o : Int) (lo : Option Addr) (cl : Nat) (A : Nat -> Option Addr) (C : Nat -> Nat) (w : World) (hl : Lst w lo n A C F) :
    Calls Tryz.prog 29 #[.agg #[.int .i64 k, .int .i64 r, .int .i64 c, .int .i64 q, .slice lo n cl], .int .i64 o] w fun e w' => ∃ lo' A' C', e = .returned (.tuple #[.slice lo' 0 0, .int .i64 x]) /\ Im w.heap.size w' lo' (2 * 0) A' C' (fun _ => []) /\ Below w.heap.size w w' := by
  obtain ⟨w0, hw0⟩ : ∃ w0, w0 = w.alloc (.cells #[.int .i64 k, .int .i64 r, .int .i64 c, .int .i64 q, .slice lo n cl] 51) := ⟨_, rfl⟩
  have b0 : Below w.heap.size w w0 := by rw [hw0]; exact below_alloc _ _
  have HC := checked_any hck lo cl A C w0 (hl.below b0)
  have hx2 : (x != 0) = true := by simp; exact hx
  clear hck hl hx
  go_enter Tryz.func29, Tryz.ntmps29
  go_wp2_with fail
  rw [<- hw0]
  clear hw0
  refine HC.mono ?_
  rintro e wa ⟨rfl, ha⟩
  clear HC
  go_wp2_with fail
  go_ret2
  exact ⟨none, fun _ => none, fun _ => 0, rfl, .inl ⟨rfl, rfl⟩, below_then b0 (below_then ha (below_alloc _ _))⟩
set_option maxHeartbeats 1000000 in
set_option maxRecDepth 100000 in
theorem Row_e2 (hck : Ck k r c q n F 0 N Q S) (o : Int) (ho : ¬ (0 <= o /\ o < (Q : Int))) (lo : Option Addr) (cl : Nat) (A : Nat -> Option Addr) (C : Nat -> Nat) (w : World) (hl : Lst w lo n A C F) :
    Calls Tryz.prog 29 #[.agg #[.int .i64 k, .int .i64 r, .int .i64 c, .int .i64 q, .slice lo n cl], .int .i64 o] w fun e w' => ∃ lo' A' C', e = .returned (.tuple #[.slice lo' 0 0, .int .i64 2]) /\ Im w.heap.size w' lo' (2 * 0) A' C' (fun _ => []) /\ Below w.heap.size w w' := by
  obtain ⟨w0, hw0⟩ : ∃ w0, w0 = w.alloc (.cells #[.int .i64 k, .int .i64 r, .int .i64 c, .int .i64 q, .slice lo n cl] 51) := ⟨_, rfl⟩
  have b0 : Below w.heap.size w w0 := by rw [hw0]; exact below_alloc _ _
  have HC := checked_any hck lo cl A C w0 (hl.below b0)
  have HW := fun w => inW_any o (Q : Int) w
  rw [decide_eq_false ho] at HW
  clear hck hl ho
  go_enter Tryz.func29, Tryz.ntmps29
  go_wp2_with fail
  rw [<- hw0]
  clear hw0
  refine HC.mono ?_
  rintro e wa ⟨rfl, ha⟩
  clear HC
  go_wp2_with (go_at_call 68; refine (HW _).mono ?_; rintro e w' ⟨rfl, hw'⟩; obtain rfl := hw'.symm)
  go_ret2
  exact ⟨none, fun _ => none, fun _ => 0, rfl, .inl ⟨rfl, rfl⟩, below_then b0 (below_then ha (below_alloc _ _))⟩
set_option maxHeartbeats 2000000 in
set_option maxRecDepth 100000 in
theorem Row_ok (hck : Ck k r c q n F 0 N Q S) (o : Nat) (ho : o < Q) (lo : Option Addr) (cl : Nat) (hcl : n <= cl) (A : Nat -> Option Addr) (C : Nat -> Nat) (w : World) (hl : Lst w lo n A C F) :
    Calls Tryz.prog 29 #[.agg #[.int .i64 k, .int .i64 r, .int .i64 c, .int .i64 q, .slice lo n cl], .int .i64 (o : Int)] w fun e w' => ∃ lo' A' C', e = .returned (.tuple #[.slice lo' N N, .int .i64 0]) /\ Im w.heap.size w' lo' (2 * N) A' C' (rowF Q o F) /\ Below w.heap.size w w' := by
  obtain ⟨hpm, hne, hfit⟩ := hck.ok rfl
  obtain ⟨hN1, hN2, hQ1, hQ, hS1, hS2, hn1, hn2⟩ := hpm.bounds
  rw [<- hne] at hn1 hn2
  have HNE : Hid (n = N * Q * 2) := hne
  have HSL : Hid (∀ i, i < n -> (F i).length <= 1000000) := fun i hi => by have := hfit i hi; omega
  obtain ⟨b, off, rfl, hcell⟩ := hl.at_ (by omega)
  have HLL : Hid (Lst w (some ⟨b, off, none⟩) n A C F) := hl
  clear hcell
  obtain ⟨w0, hw0⟩ : ∃ w0, w0 = w.alloc (.cells #[.int .i64 k, .int .i64 r, .int .i64 c, .int .i64 q, .slice (some ⟨b, off, none⟩) n cl] 51) := ⟨_, rfl⟩
  have b0 : Below w.heap.size w w0 := by rw [hw0]; exact below_alloc _ _
  have HC := checked_any hck (some ⟨b, off, none⟩) cl A C w0 (hl.below b0)
  have HW := fun w => inW_any (o : Int) (Q : Int) w
  rw [decide_eq_true (show 0 <= (o : Int) /\ (o : Int) < (Q : Int) by omega)] at HW
  obtain ⟨i0, hi0, hz0, hz1, hz2⟩ := info_parts info59
  have hmk0 := fun w => run_make (P := Tryz.prog) w 24 98 i0 _ Tryz.underlying24 hi0 hz0 .i64 .i64 (N : Int) (N : Int) (by omega) (by omega) (by rw [hz2]; omega) (by omega)
  rw [hz1, Int.toNat_natCast] at hmk0
  obtain ⟨Z, hZ⟩ : ∃ Z, Z = madeCells #[Value.slice none 0 0, .slice none 0 0] (N * 2) := ⟨_, rfl⟩
  have hmk : ∀ w, (Instr.makeSlice 24 (.int .i64 (N : Int)) (.int .i64 (N : Int))).run Tryz.prog w = .ok (.slice (some ⟨w.heap.size, 0, none⟩) N N) (w.alloc (.cells Z 98)) := fun w => by rw [hZ]; exact hmk0 w
  clear hmk0
  have HROW : Hid (∀ w : World, (w.alloc (.cells Z 98)).rowIs w.heap.size 98 (2 * N) (fun _ => .slice none 0 0)) := fun w => by
    have hsz : Z.size = 2 * N := by rw [hZ, size_madeCells]; omega
    rw [<- hsz]
    exact World.rowIs_alloc w Z 98 _ fun i hi => by rw [hZ]; exact made_pairs _ _ (by omega)
  clear hck hl hpm hne hfit hZ hz0 hz1 hz2 hi0
  go_enter Tryz.func29, Tryz.ntmps29
  go_wp2_with fail
  rw [<- hw0]
  refine HC.mono ?_
  rintro e wa ⟨rfl, ha⟩
  obtain ⟨wb, hwb⟩ : ∃ wb, wb = wa.alloc (.cells #[.int .i64 (N : Int), .int .i64 (Q : Int), .int .i64 (S : Int)] 124) := ⟨_, rfl⟩
  obtain ⟨wz, hwz⟩ : ∃ wz, wz = wb.alloc (.cells Z 98) := ⟨_, rfl⟩
  have hab : Below wa.heap.size wa wb := by rw [hwb]; exact below_alloc _ _
  have hbz : Below wb.heap.size wb wz := by rw [hwz]; exact below_alloc _ _
  have zab : wb.heap.size = wa.heap.size + 1 := by rw [hwb]; simp
  have zbz : wb.heap.size < wz.heap.size := by rw [hwz]; simp
  have HB0 : Hid (Below w0.heap.size w0 wz) := below_then ha (below_then hab hbz)
  have HBZ : Hid (Below w.heap.size w wz) := below_then b0 HB0.out
  have z0 : w.heap.size < w0.heap.size := by rw [hw0]; simp
  have z0a := ha.size
  have SP : Hid (∀ v, Only (fun x => x = (wa.heap.size + 1)) wz v -> v.cell? ⟨wa.heap.size, 0, none⟩ = some (.int .i64 (N : Int)) /\ v.cell? ⟨wa.heap.size, 1, none⟩ = some (.int .i64 (Q : Int)) /\ v.cell? ⟨wa.heap.size, 2, none⟩ = some (.int .i64 (S : Int))) := fun v hv => by
    obtain ⟨a0, a1, a2⟩ := shp_held hwb hbz
    have hne : ¬ (wa.heap.size = (wa.heap.size + 1)) := by omega
    exact ⟨hv.cell a0 hne, hv.cell a1 hne, hv.cell a2 hne⟩
  have SI : Hid (∀ v, Only (fun x => x = (wa.heap.size + 1)) wz v -> v.cell? ⟨w.heap.size, 0, none⟩ = some (.int .i64 k) /\ v.cell? ⟨w.heap.size, 1, none⟩ = some (.int .i64 r) /\ v.cell? ⟨w.heap.size, 2, none⟩ = some (.int .i64 c) /\ v.cell? ⟨w.heap.size, 3, none⟩ = some (.int .i64 q) /\ v.cell? ⟨w.heap.size, 4, none⟩ = some (.slice (some ⟨b, off, none⟩) n cl)) := fun v hv => by
    obtain ⟨a0, a1, a2, a3, a4⟩ := img_held hw0 HB0.out
    have hne : ¬ (w.heap.size = (wa.heap.size + 1)) := by omega
    exact ⟨hv.cell a0 hne, hv.cell a1 hne, hv.cell a2 hne, hv.cell a3 hne, hv.cell a4 hne⟩
  have HS : Hid (ImR (wa.heap.size + 1) wz (wa.heap.size + 1) (2 * N) (fun _ => none) (fun _ => 0) (upto (2 * 0) (rowF Q o F))) := ⟨by rw [hwz, <- zab]; exact rsl_blank (HROW.out wb) (Nat.le_refl _) _, fun i hi => .inl ⟨rfl, upto_zero (rowF Q o F) ▸ rfl, rfl⟩⟩
  have zab2 : wa.heap.size + 1 < wz.heap.size := by omega
  clear hw0 HC ha hab hbz HROW zab b0
  go_wp2_with (first | (go_at_call 68; refine (HW _).mono ?_; rintro e w' ⟨rfl, hw'⟩; obtain rfl := hw'.symm) | fail)
  rw [<- hwb, <- hwz]
  clear hwb hwz HW hmk
  go_loopw [9, 30] (fun _ x wr => ∃ i : Nat, i <= N /\ x = .int .i64 i /\ Hid (∃ A' C', ImR (wa.heap.size + 1) wr (wa.heap.size + 1) (2 * N) A' C' (upto (2 * i) (rowF Q o F))) /\ Hid (Only (fun x => x = (wa.heap.size + 1)) wz wr)) (fun _ x _ => N - (intOf x).toNat)
  case atStart => exact ⟨0, Nat.zero_le _, by first | rfl | go_num, ⟨_, _, HS.out⟩, Only.refl _ _⟩
  case round =>
    obtain ⟨i, hi, rfl, hs, hb⟩ := hrel
    have hbw : Below w.heap.size w wr := HBZ.out.trans (hb.out.below (fun i h => by omega) (by omega))
    by_cases hlt : i < N
    · obtain ⟨s0, s1, s2⟩ := SP.out wr hb.out
      obtain ⟨c0, c1, c2, c3, c4⟩ := SI.out wr hb.out
      have hzr := hb.out.size
      have i1 : (0 : Int) <= (i : Int) := by omega
      have i2 : (i : Int) < (N : Int) := by omega
      have hpl : (i * Q + o) * 2 + 1 < n := by
        have a3 : (i + 1) * Q <= N * Q := Nat.mul_le_mul_right Q hlt
        rw [Nat.add_mul, Nat.one_mul] at a3
        rw [HNE.out]; omega
      have HCE := cell_any k r c q N Q S b off n cl i o hN2 hQ hlt ho HNE.out hcl wr
      have HG : Hid (rowF Q o F (2 * i) = F ((i * Q + o) * 2) /\ rowF Q o F (2 * i + 1) = F ((i * Q + o) * 2 + 1)) := ⟨rowF_0 Q o F i, rowF_1 Q o F i⟩
      obtain ⟨f, hf⟩ : ∃ f, f = (i * Q + o) * 2 := ⟨_, rfl⟩
      rw [<- hf] at hpl HCE HG
      clear hf
      go_wp2_with fail
      refine HCE.mono ?_
      rintro e wf ⟨rfl, hwf⟩
      have HLF := HLL.out.below (below_then hbw hwf)
      obtain ⟨b', off', e', hc'⟩ := HLF.at_ (by omega)
      cases e'
      have HCP := copiedPair_any b (off + f) (A f) (A (f + 1)) (C f) (C (f + 1)) (F f) (F (f + 1)) wf (hc' f (by omega)) (by rw [Nat.add_assoc]; exact hc' (f + 1) hpl) (HLF.rd f (by omega)) (HLF.rd (f + 1) hpl) (HSL.out f (by omega)) (HSL.out (f + 1) hpl)
      clear HLF hc' HCE
      go_wp2_with fail
      refine HCP.mono ?_
      rintro e wg ⟨a0, p0, a1, p1, rfl, h0, h1, hwg⟩
      have HBG : Hid (Below wr.heap.size wr wg) := below_then hwf hwg
      have hzf := hwf.size
      have HO0 : Hid (OwC (wa.heap.size + 1) wg a0 p0 (F f) /\ ∀ a, a0 = some a -> a.block ≠ (wa.heap.size + 1)) := ⟨h0.mono (by omega), fun a ha => by have := (h0.at_ ha).1; omega⟩
      have HO1 : Hid (OwC (wa.heap.size + 1) wg a1 p1 (F (f + 1)) /\ ∀ a, a1 = some a -> a.block ≠ (wa.heap.size + 1)) := ⟨h1.mono (by omega), fun a ha => by have := (h1.at_ ha).1; omega⟩
      obtain ⟨A', C', hs1⟩ := hs.out
      have HX : Hid (ImR (wa.heap.size + 1) wg (wa.heap.size + 1) (2 * N) A' C' (upto (2 * i) (rowF Q o F))) := hs1.below HBG.out
      have k0 := HX.out.1.cell (2 * i) (by omega)
      have k1 := HX.out.1.cell (2 * i + 1) (by omega)
      have k2 := HX.out.1.free (2 * i) (by omega)
      have k3 := HX.out.1.free (2 * i + 1) (by omega)
      rw [Nat.mul_comm] at k0 k1 k2 k3
      clear HCP h0 h1 hwf hwg hs1 hbw
      go_wp2_with fail
      go_roundw
      case rel =>
        refine ⟨i + 1, by omega, by go_num, ⟨upd (2 * i + 1) a1 (upd (2 * i) a0 A'), upd (2 * i + 1) p1 (upd (2 * i) p0 C'), ?_⟩, ?_⟩
        · have h2 := HX.out.put (2 * i) HO0.out.1 HO0.out.2
          have h3 := h2.put (2 * i + 1) (HO1.out.1.set HO1.out.2 (2 * i) (.slice a0 (F f).length p0)) HO1.out.2
          rw [Nat.mul_comm 2 i] at h3 ⊢
          refine h3.congr fun j _ => ?_
          rw [<- HG.out.1, <- HG.out.2, Nat.mul_comm 2 i, show 2 * (i + 1) = i * 2 + 1 + 1 by omega, <- upto_succ]
          unfold upd
          by_cases e : j = i * 2 + 1
          · rw [if_pos e, if_pos e]
          · rw [if_neg e, if_neg e, <- upto_succ]; rfl
        · exact ((hb.out.then HBG.out).setCell (p := ⟨wa.heap.size + 1, i * 2, none⟩) rfl _).setCell (p := ⟨wa.heap.size + 1, i * 2 + 1, none⟩) rfl _
      case measure => simp [intOf]; omega
    · obtain rfl : i = N := by omega
      go_wp2_with fail
      go_ret2
      obtain ⟨A', C', hs1⟩ := hs.out
      have hs2 := (hs1.congr (G := rowF Q o F) fun j hj => upto_all _ j hj).mono (B' := w.heap.size) (by omega)
      exact ⟨some ⟨wa.heap.size + 1, 0, none⟩, A', C', rfl, .inr ⟨wa.heap.size + 1, rfl, hs2.1, hs2.2⟩, hbw⟩
end
theorem Row_any {k r c q : Int} {n : Nat} {F : Nat -> List UInt8} {o x : Int} {n' : Nat} {G : Nat -> List UInt8} (h : Rww k r c q n F o x n' G) (lo : Option Addr) (cl : Nat) (hcl : n <= cl) (A : Nat -> Option Addr) (C : Nat -> Nat) (w : World) (hl : Lst w lo n A C F) :
    Calls Tryz.prog 29 #[.agg #[.int .i64 k, .int .i64 r, .int .i64 c, .int .i64 q, .slice lo n cl], .int .i64 o] w fun e w' => ∃ lo' A' C', e = .returned (.tuple #[.slice lo' n' n', .int .i64 x]) /\ Im w.heap.size w' lo' (2 * n') A' C' G /\ Below w.heap.size w w' := by
  obtain ⟨y, N, Q, S, hck, hc⟩ := h
  rcases hc with ⟨rfl, h1, h2, rfl, rfl, rfl⟩ | ⟨⟨rfl, rfl⟩, hc⟩
  · obtain ⟨oo, rfl⟩ := Int.eq_ofNat_of_zero_le h1
    rw [Int.toNat_natCast]
    exact Row_ok hck oo (by omega) lo cl hcl A C w hl
  · rcases hc with ⟨h1, rfl⟩ | ⟨rfl, h1, rfl⟩
    · exact Row_e1 hck h1 o lo cl A C w hl
    · exact Row_e2 hck o h1 lo cl A C w hl
end Go.Proofs.YtmoenmpbkockoaaGreat.Im
