/- Whether a row may be; the stand that a call asks for, that a call writes into. -/
import Derived.Test.YtfhefbbhlmdjkaaGreatStA
namespace Go.Proofs.YtfhefbbhlmdjkaaGreat
open Go.RowKit

/-- The error of a row. -/
def erR (x : Int) (N : Nat) (c : Int) (rn : Nat) (L : Nat → Nat) : Int := if x = 0 then (if rn = N ∧ ∀ j, j < 2 * rn → L j = 0 ∨ L j = sz N c then 0 else 120) else x
theorem Par.le {k r c q : Int} {N W : Nat} {e : Int} (h : Par k r c q N W e) : N ≤ 16 := by
  rcases h with ⟨h, _, h0, _⟩ | ⟨_, _, h0, _⟩
  · obtain ⟨h1, h2, h3, h4, h5, h6, h7, h8, h9⟩ := may_true h; omega
  · omega
set_option maxHeartbeats 2000000 in
set_option maxRecDepth 100000 in
theorem checkRow_any {k r c q : Int} {N W : Nat} {x : Int} (h : Par k r c q N W x) (w : World) (ro : Option Addr) (rn rc : Nat) (A : Nat → Option Addr) (L C : Nat → Nat) (F : Nat → Nat → UInt8) (hr : Rw w ro rn A L C F) (E : Int) (hE : erR x N c rn L = E) :
    Calls Tryz.prog 48 #[.agg #[.int .i64 k, .int .i64 r, .int .i64 c, .int .i64 q], .slice ro rn rc] w fun e w' => e = .returned (.int .i64 E) ∧ Below w.heap.size w w' := by
  have HD := fun w => Drives_any h w
  have HZ := fun w => Size_any h w
  have hle := h.le
  obtain ⟨w0, hw0⟩ : ∃ w0, w0 = w.alloc (.cells #[.int .i64 k, .int .i64 r, .int .i64 c, .int .i64 q] 23) := ⟨_, rfl⟩
  have b0 : Below w.heap.size w w0 := by rw [hw0]; exact below_alloc _ _
  by_cases hx : x = 0
  · subst hx
    have e0 : szE 0 N c = sz N c := if_pos rfl
    rw [e0] at HZ
    unfold erR at hE
    rw [if_pos rfl] at hE
    clear h e0
    by_cases hn : rn = N
    · subst hn
      have hnn : ((rn : Int) != (rn : Int)) = false := by simp
      obtain ⟨z, hz⟩ : ∃ z, z = sz rn c := ⟨_, rfl⟩
      rw [← hz] at hE HZ
      clear hz
      have HE : Hid ((∀ j, j < 2 * rn → L j = 0 ∨ L j = z) ∧ E = 0 ∨ ¬ (∀ j, j < 2 * rn → L j = 0 ∨ L j = z) ∧ E = 120) := by
        by_cases g : ∀ j, j < 2 * rn → L j = 0 ∨ L j = z
        · rw [if_pos ⟨rfl, g⟩] at hE; exact .inl ⟨g, hE.symm⟩
        · rw [if_neg fun a => g a.2] at hE; exact .inr ⟨g, hE.symm⟩
      have HR : Hid (Rw w ro rn A L C F) := hr
      clear hE hr
      go_enter Tryz.func48, Tryz.ntmps48
      go_wp2_with fail
      rw [← hw0]
      refine (HD _).mono ?_
      rintro e wa ⟨rfl, ha⟩
      obtain ⟨s0, s1, s2, s3⟩ := par_held hw0 ha
      go_wp2_with fail
      refine (HZ _).mono ?_
      rintro e wb ⟨rfl, hb⟩
      obtain ⟨wc, hwc⟩ : ∃ wc, wc = wb.alloc (.cells #[.int .i64 (z : Int)] 3) := ⟨_, rfl⟩
      have HC : Hid (Below w.heap.size w wc) := by show Below _ _ _; rw [hwc]; exact below_then (below_then (below_then b0 ha) hb) (below_alloc _ _)
      have HG : Hid (∀ v, Below wc.heap.size wc v → v.cell? ⟨wb.heap.size, 0, none⟩ = some (.int .i64 (z : Int))) := fun v hv => blk_held hwc hv 0 rfl
      clear s0 s1 s2 s3 hw0 b0 ha hb
      go_wp2_with fail
      rw [← hwc]
      clear hwc
      go_loopw [30] (fun y wr => ∃ i : Nat, i ≤ rn ∧ y = .int .i64 (i : Int) ∧ Hid (Below wc.heap.size wc wr) ∧ Hid (∀ j, j < 2 * i → L j = 0 ∨ L j = z)) (fun y _ => rn - (intOf y).toNat)
      case atStart => exact ⟨0, Nat.zero_le _, rfl, Below.refl _ _, fun j hj => absurd hj (by omega)⟩
      case round =>
        obtain ⟨i, hi, rfl, hbw, hall⟩ := hrel
        by_cases hlt : i < rn
        · obtain ⟨b, off, rfl, hcc⟩ := HR.out.at_ (by omega)
          have c0 : wr.cell? ⟨b, off + i * 2, none⟩ = some (.slice (A (2 * i)) (L (2 * i)) (C (2 * i))) := held (hcc i hlt).1 (below_then HC.out hbw.out)
          have c1 : wr.cell? ⟨b, off + i * 2 + 1, none⟩ = some (.slice (A (2 * i + 1)) (L (2 * i + 1)) (C (2 * i + 1))) := held (hcc i hlt).2 (below_then HC.out hbw.out)
          clear hcc
          have i1 : (0 : Int) ≤ (i : Int) := by omega
          have i2 : (i : Int) < (rn : Int) := by omega
          obtain ⟨wd, hwd⟩ : ∃ wd, wd = wr.alloc (.cells #[.slice (A (2 * i)) (L (2 * i)) (C (2 * i)), .slice (A (2 * i + 1)) (L (2 * i + 1)) (C (2 * i + 1))] 67) := ⟨_, rfl⟩
          have bd : Below wr.heap.size wr wd := by rw [hwd]; exact below_alloc _ _
          have hrule : RuleC wd 79 #[.pointer (some ⟨wb.heap.size, 0, none⟩)] 2 (fun t => A (2 * i + t)) (fun t => L (2 * i + t)) (fun t => C (2 * i + t)) (fun t => badL z (L (2 * i + t))) := fun t _ => bad_any wd _ _ _ _ z (HG.out _ (below_then hbw.out bd))
          have hread : RdC wd (some ⟨wr.heap.size, 0, none⟩) 2 (fun t => A (2 * i + t)) (fun t => L (2 * i + t)) (fun t => C (2 * i + t)) := fun _ => ⟨_, 0, rfl, fun t ht => by
            rcases (show t = 0 ∨ t = 1 by omega) with rfl | rfl
            · exact blk_held hwd (Below.refl _ _) 0 rfl
            · exact blk_held hwd (Below.refl _ _) 1 rfl⟩
          have HX := containsC_any wd _ 2 2 79 _ _ _ _ _ (by omega) (fun _ _ => rfl) hread hrule
          obtain ⟨y, hy⟩ : ∃ y, y = anyB 2 (fun t => badL z (L (2 * i + t))) := ⟨_, rfl⟩
          rw [← hy] at HX
          have HD2 : Hid (Below wc.heap.size wc wd) := below_then hbw.out bd
          have HY : Hid ((y = false ∧ (L (2 * i) = 0 ∨ L (2 * i) = z) ∧ (L (2 * i + 1) = 0 ∨ L (2 * i + 1) = z)) ∨ (y = true ∧ ¬ ((L (2 * i) = 0 ∨ L (2 * i) = z) ∧ (L (2 * i + 1) = 0 ∨ L (2 * i + 1) = z)))) := by
            have hyy := hy
            unfold anyB at hyy
            by_cases g : ∀ t, t < 2 → badL z (L (2 * i + t)) = false
            · refine .inl ⟨by rw [hyy, decide_eq_true g]; rfl, ?_, ?_⟩
              · have := of_decide_eq_false (g 0 (by omega)); rw [Nat.add_zero] at this; omega
              · have := of_decide_eq_false (g 1 (by omega)); omega
            · refine .inr ⟨by rw [hyy, decide_eq_false g]; rfl, fun a => g fun t ht => ?_⟩
              rcases (show t = 0 ∨ t = 1 by omega) with rfl | rfl
              · exact decide_eq_false (by rw [Nat.add_zero]; omega)
              · exact decide_eq_false (by omega)
          clear hrule hread bd hy
          cases y
          · go_wp2_with fail
            rw [← hwd]
            clear hwd c0 c1
            refine HX.mono ?_
            rintro e w' ⟨rfl, hw'⟩
            obtain rfl := hw'.symm
            go_wp2_with fail
            go_roundw
            case rel =>
              refine ⟨i + 1, by omega, by go_num, HD2.out, fun j hj => ?_⟩
              rcases HY.out with ⟨_, g0, g1⟩ | ⟨g, _⟩
              · by_cases e0 : j < 2 * i
                · exact hall.out j e0
                · rcases (show j = 2 * i ∨ j = 2 * i + 1 by omega) with rfl | rfl
                  · exact g0
                  · exact g1
              · cases g
            case measure => simp [intOf]; omega
          · go_wp2_with fail
            rw [← hwd]
            clear hwd c0 c1
            refine HX.mono ?_
            rintro e w' ⟨rfl, hw'⟩
            obtain rfl := hw'.symm
            go_wp2_with fail
            go_ret
            refine ⟨ret_int ?_, below_then HC.out HD2.out⟩
            rcases HE.out with ⟨g, _⟩ | ⟨_, g⟩
            · exfalso
              rcases HY.out with ⟨g2, _⟩ | ⟨_, g2⟩
              · cases g2
              · exact g2 ⟨g (2 * i) (by omega), g (2 * i + 1) (by omega)⟩
            · exact g.symm
        · obtain rfl : i = rn := by omega
          go_wp2_with fail
          go_ret
          refine ⟨ret_int ?_, below_then HC.out hbw.out⟩
          rcases HE.out with ⟨_, g⟩ | ⟨g, _⟩
          · exact g.symm
          · exact absurd (fun j hj => hall.out j hj) g
    · have hnn : ((rn : Int) != (N : Int)) = true := by simp; omega
      obtain rfl : E = 120 := by rw [if_neg fun a => hn a.1] at hE; exact hE.symm
      clear hE hr
      go_enter Tryz.func48, Tryz.ntmps48
      go_wp2_with fail
      rw [← hw0]
      refine (HD _).mono ?_
      rintro e wa ⟨rfl, ha⟩
      go_wp2_with fail
      go_ret
      exact ⟨rfl, below_then b0 ha⟩
  · obtain rfl : x = E := by unfold erR at hE; rw [if_neg hx] at hE; exact hE
    have hnn : (x != 0) = true := by simp [hx]
    clear hE hr
    go_enter Tryz.func48, Tryz.ntmps48
    go_wp2_with fail
    rw [← hw0]
    refine (HD _).mono ?_
    rintro e wa ⟨rfl, ha⟩
    go_wp2_with fail
    go_ret
    exact ⟨rfl, below_then b0 ha⟩
end Go.Proofs.YtfhefbbhlmdjkaaGreat
