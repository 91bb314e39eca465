/- CoG: what is needed of them. -/
import Derived.Test.YtdmpiipllmjloaaGreatFj38
import Derived.Test.YtdmpiipllmjloaaGreatFj50
import Derived.Test.YtdmpiipllmjloaaGreatFj51
namespace Go.Proofs.YtdmpiipllmjloaaGreat
open Go.RowKit
set_option maxHeartbeats 1000000 in
set_option maxRecDepth 100000 in
theorem crun_any {k r c q : Int} {N W : Nat} {x : Int} (h : Par k r c q N W x) (w : World) (ro : Option Addr) (rn rc : Nat) (A : Nat → Option Addr) (L C : Nat → Nat) (F : Nat → Nat → UInt8) (hr : Rw w ro rn A L C F) (E : Int) (hE : erR x N c rn L = E) (y : Int) (hy : Cn.rdv E (Cn.wins k (Cn.hP N c L F) (Cn.hQ N c L F) N) 1 = y) (z : Bool) (hz : Cn.rdb E (Cn.wins k (Cn.hP N c L F) (Cn.hQ N c L F) N) 1 = z) : Askd w 29 k r c q ro rn rc y z E := fun u hu => by
  obtain ⟨w0, hw0⟩ : ∃ w0, w0 = u.alloc (.cells #[.int .i64 k, .int .i64 r, .int .i64 c, .int .i64 q, .slice ro rn rc] 53) := ⟨_, rfl⟩
  have b0 : Below u.heap.size u w0 := by rw [hw0]; exact below_alloc _ _
  have HH := Cn.Runner_any h w0 ro rn rc A L C F (hr.below (below_then hu b0)) E hE y hy z hz
  clear hr hE h hy hz
  go_enter Tryz.func29, Tryz.ntmps29
  go_wp2_with fail
  rw [← hw0]
  refine HH.mono ?_
  rintro e wa ⟨rfl, ha⟩
  have BA : Hid (Below u.heap.size u wa) := below_then b0 ha
  clear ha b0 hw0 HH
  go_wp2_with fail
  refine bodyPost_ret (v := .tuple #[.int .i64 y, .bool z, .int .i64 E]) (by simp [results, Tryz.results29, go_sem]) rfl ?_
  exact ⟨rfl, BA.out⟩
set_option maxHeartbeats 4000000 in
set_option maxRecDepth 100000 in
theorem cFin_err {k r c q : Int} (w : World) (ro : Option Addr) (rn rc : Nat) (nu y0 y E0 eL : Int) (ok : Bool)
    (HA : Hid (∀ u, Below w.heap.size w u → Calls Tryz.prog 16 #[.agg #[.int .i64 k, .int .i64 r, .int .i64 c, .int .i64 q], .slice ro rn rc, .func (.func 29) #[] #[]] u fun e w' => e = .returned (.tuple #[.int .i64 y0, .int .i64 E0]) ∧ Below u.heap.size u w'))
    (HI : Hid (∀ u, Calls Tryz.prog 18 #[.agg #[.int .i64 k, .int .i64 r, .int .i64 c, .int .i64 q], .int .i64 nu] u fun e w' => e = .returned (.bool ok) ∧ Below u.heap.size u w'))
    (HL : Hid (∀ u, Below w.heap.size w u → Calls Tryz.prog 21 #[.agg #[.int .i64 k, .int .i64 r, .int .i64 c, .int .i64 q], .slice ro rn rc, .func (.func 17) #[] #[]] u fun e w' => e = .returned (.tuple #[.int .i64 y, .int .i64 eL]) ∧ Below u.heap.size u w')) (E : Int)
    (hE : (E0 ≠ 0 ∧ E = E0) ∨ (E0 = 0 ∧ ok = false ∧ E = 2) ∨ (E0 = 0 ∧ ok = true ∧ eL ≠ 0 ∧ E = eL)) :
    Calls Tryz.prog 15 #[.agg #[.int .i64 k, .int .i64 r, .int .i64 c, .int .i64 q], .slice ro rn rc, .int .i64 nu] w fun e w' => e = .returned (.tuple #[.slice none 0 0, .int .i64 E]) ∧ Below w.heap.size w w' := by
  obtain ⟨w0, hw0⟩ : ∃ w0, w0 = w.alloc (.cells #[.int .i64 k, .int .i64 r, .int .i64 c, .int .i64 q] 23) := ⟨_, rfl⟩
  have b0 : Below w.heap.size w w0 := by rw [hw0]; exact below_alloc _ _
  have HQ : Hid (∀ u, Below w0.heap.size w0 u → (u.cell? ⟨w.heap.size, 0, none⟩ = some (.int .i64 k) ∧ u.cell? ⟨w.heap.size, 1, none⟩ = some (.int .i64 r) ∧ u.cell? ⟨w.heap.size, 2, none⟩ = some (.int .i64 c) ∧ u.cell? ⟨w.heap.size, 3, none⟩ = some (.int .i64 q))) := fun u hu => par_held hw0 hu
  have HBB : Hid (Below w.heap.size w w0) := b0
  rcases hE with ⟨h0, rfl⟩ | ⟨rfl, rfl, rfl⟩ | ⟨rfl, rfl, h4, rfl⟩
  · have hz : (E != 0) = true := by simpa using h0
    go_enter Tryz.func15, Tryz.ntmps15
    go_wp2_with fail
    rw [← hw0]
    clear hw0 b0
    refine (HA.out _ HBB.out).mono ?_
    rintro e wa ⟨rfl, ha⟩
    go_wp2_with fail
    go_ret2
    exact ⟨rfl, below_then HBB.out ha⟩
  · go_enter Tryz.func15, Tryz.ntmps15
    go_wp2_with fail
    rw [← hw0]
    clear hw0 b0
    refine (HA.out _ HBB.out).mono ?_
    rintro e wa ⟨rfl, ha⟩
    obtain ⟨s0, s1, s2, s3⟩ := HQ.out wa ha
    go_wp2_with fail
    refine (HI.out _).mono ?_
    rintro e wb ⟨rfl, hb⟩
    have hab := below_then ha hb
    clear s0 s1 s2 s3 ha hb
    go_wp2_with fail
    go_ret2
    exact ⟨rfl, below_then HBB.out hab⟩
  · have hz : (E != 0) = true := by simpa using h4
    go_enter Tryz.func15, Tryz.ntmps15
    go_wp2_with fail
    rw [← hw0]
    clear hw0 b0
    refine (HA.out _ HBB.out).mono ?_
    rintro e wa ⟨rfl, ha⟩
    obtain ⟨s0, s1, s2, s3⟩ := HQ.out wa ha
    go_wp2_with fail
    refine (HI.out _).mono ?_
    rintro e wb ⟨rfl, hb⟩
    have hab := below_then ha hb
    clear s0 s1 s2 s3 ha hb
    obtain ⟨s0, s1, s2, s3⟩ := HQ.out wb hab
    go_wp2_with fail
    refine (HL.out _ (below_then HBB.out hab)).mono ?_
    rintro e wc ⟨rfl, hc⟩
    have hac := below_then hab hc
    clear s0 s1 s2 s3 hab hc
    go_wp2_with fail
    go_ret2
    exact ⟨rfl, below_then HBB.out hac⟩
set_option maxHeartbeats 4000000 in
set_option maxRecDepth 100000 in
theorem cFin_good {k r c q : Int} (w : World) (ro : Option Addr) (rn rc : Nat) (nu y0 y : Int) (P : World → Ending → World → Prop)
    (HA : Hid (∀ u, Below w.heap.size w u → Calls Tryz.prog 16 #[.agg #[.int .i64 k, .int .i64 r, .int .i64 c, .int .i64 q], .slice ro rn rc, .func (.func 29) #[] #[]] u fun e w' => e = .returned (.tuple #[.int .i64 y0, .int .i64 0]) ∧ Below u.heap.size u w'))
    (HI : Hid (∀ u, Calls Tryz.prog 18 #[.agg #[.int .i64 k, .int .i64 r, .int .i64 c, .int .i64 q], .int .i64 nu] u fun e w' => e = .returned (.bool true) ∧ Below u.heap.size u w'))
    (HL : Hid (∀ u, Below w.heap.size w u → Calls Tryz.prog 21 #[.agg #[.int .i64 k, .int .i64 r, .int .i64 c, .int .i64 q], .slice ro rn rc, .func (.func 17) #[] #[]] u fun e w' => e = .returned (.tuple #[.int .i64 y, .int .i64 0]) ∧ Below u.heap.size u w'))
    (HF : Hid (∀ u, Below w.heap.size w u → Calls Tryz.prog 30 #[.agg #[.int .i64 k, .int .i64 r, .int .i64 c, .int .i64 q], .slice ro rn rc, .int .i64 nu, .int .u8 2, .int .i64 y0, .int .i64 y] u fun e w' => ∃ lo ln lc E, e = .returned (.tuple #[.slice lo ln lc, .int .i64 E]) ∧ (∀ w0, Below w0.heap.size w0 u → w0.heap.size ≤ u.heap.size → P w0 (.returned (.tuple #[.slice lo ln lc, .int .i64 E])) w') ∧ Below u.heap.size u w')) :
    Calls Tryz.prog 15 #[.agg #[.int .i64 k, .int .i64 r, .int .i64 c, .int .i64 q], .slice ro rn rc, .int .i64 nu] w fun e w' => P w e w' := by
  obtain ⟨w0, hw0⟩ : ∃ w0, w0 = w.alloc (.cells #[.int .i64 k, .int .i64 r, .int .i64 c, .int .i64 q] 23) := ⟨_, rfl⟩
  have b0 : Below w.heap.size w w0 := by rw [hw0]; exact below_alloc _ _
  have HQ : Hid (∀ u, Below w0.heap.size w0 u → (u.cell? ⟨w.heap.size, 0, none⟩ = some (.int .i64 k) ∧ u.cell? ⟨w.heap.size, 1, none⟩ = some (.int .i64 r) ∧ u.cell? ⟨w.heap.size, 2, none⟩ = some (.int .i64 c) ∧ u.cell? ⟨w.heap.size, 3, none⟩ = some (.int .i64 q))) := fun u hu => par_held hw0 hu
  have HBB : Hid (Below w.heap.size w w0) := b0
  go_enter Tryz.func15, Tryz.ntmps15
  go_wp2_with fail
  rw [← hw0]
  clear hw0 b0
  refine (HA.out _ HBB.out).mono ?_
  rintro e wa ⟨rfl, ha⟩
  obtain ⟨s0, s1, s2, s3⟩ := HQ.out wa ha
  go_wp2_with fail
  refine (HI.out _).mono ?_
  rintro e wb ⟨rfl, hb⟩
  have hab := below_then ha hb
  clear s0 s1 s2 s3 ha hb
  obtain ⟨s0, s1, s2, s3⟩ := HQ.out wb hab
  go_wp2_with fail
  refine (HL.out _ (below_then HBB.out hab)).mono ?_
  rintro e wc ⟨rfl, hc⟩
  have hac := below_then hab hc
  clear s0 s1 s2 s3 hab hc
  obtain ⟨s0, s1, s2, s3⟩ := HQ.out wc hac
  go_wp2_with fail
  refine (HF.out _ (below_then HBB.out hac)).mono ?_
  rintro e wd ⟨lo, ln, lc, E, rfl, hP, hd⟩
  have HPP := hP w (below_then HBB.out hac) (below_then HBB.out hac).size
  clear s0 s1 s2 s3 hP
  go_wp2_with fail
  exact HPP
/-- The version ahead of the one that counts. -/
def rnV (k : Int) (N : Nat) (c : Int) (L : Nat → Nat) (F : Nat → Nat → UInt8) : Int := (Cn.wins k (Cn.hP N c L F) (Cn.hQ N c L F) N).getD 1 0
theorem rnV_bd (k : Int) (N : Nat) (c : Int) (L : Nat → Nat) (F : Nat → Nat → UInt8) : 0 ≤ rnV k N c L F ∧ rnV k N c L F ≤ 1073741824 := by
  unfold rnV
  match h : Cn.wins k (Cn.hP N c L F) (Cn.hQ N c L F) N with
  | [] => exact ⟨Int.le_refl 0, by decide⟩
  | [_] => exact ⟨Int.le_refl 0, show (0 : Int) ≤ 1073741824 by decide⟩
  | b :: a :: l =>
    have hm : a ∈ Cn.wins k (Cn.hP N c L F) (Cn.hQ N c L F) N := by rw [h]; simp
    obtain ⟨_, d, _, h2⟩ := Cn.mem_tvL.1 (List.mem_filter.1 hm).1
    show 0 ≤ a ∧ a ≤ _
    rcases h2 with e | e
    · rw [← e]; exact Cn.hP_bd N c L F d
    · rw [← e]; exact Cn.hQ_bd N c L F d
/-- The error of Finish. -/
def erCF (x : Int) (k c q nu : Int) (N rn : Nat) (L : Nat → Nat) (F : Nat → Nat → UInt8) : Int :=
  if erR x N c rn L = 0 then (if 0 ≤ nu ∧ nu < q then (if wnB k N c L F = true then erL k.toNat (zv N c L F 2 (wnV k N c L F)) N else 5) else 2) else erR x N c rn L
set_option maxRecDepth 100000 in
theorem cFin_any {k r c q : Int} {N W : Nat} {x : Int} (h : Par k r c q N W x) (w : World) (ro : Option Addr) (rn rc : Nat) (A : Nat → Option Addr) (L C : Nat → Nat) (F : Nat → Nat → UInt8) (hr : Rw w ro rn A L C F) (nu : Int) (hk1 : 1 ≤ k ∨ x ≠ 0) (E : Int) (hE : erCF x k c q nu N rn L F = E) :
    Calls Tryz.prog 15 #[.agg #[.int .i64 k, .int .i64 r, .int .i64 c, .int .i64 q], .slice ro rn rc, .int .i64 nu] w (AnsL w E (Cod.cnt (mis (zv N c L F 2 (wnV k N c L F)) c.toNat) N) N (mis (zv N c L F 2 (wnV k N c L F)) c.toNat) (osl N c L F 2 (rnV k N c L F)) nu (sz N c) (fun i => enc (slC 2 N (tS (yy N c L F) 2 (wnV k N c L F) (2 * N)).V c.toNat (cH k.toNat (zv N c L F 2 (wnV k N c L F)) N i) i))) := by
  obtain ⟨E0, hE0⟩ : ∃ E0, erR x N c rn L = E0 := ⟨_, rfl⟩
  obtain ⟨y, hy⟩ : ∃ y, Cn.rdv E0 (Cn.wins k (Cn.hP N c L F) (Cn.hQ N c L F) N) 0 = y := ⟨_, rfl⟩
  obtain ⟨z, hz⟩ : ∃ z, Cn.rdb E0 (Cn.wins k (Cn.hP N c L F) (Cn.hQ N c L F) N) 0 = z := ⟨_, rfl⟩
  obtain ⟨y0, hy0⟩ : ∃ y, Cn.rdv E0 (Cn.wins k (Cn.hP N c L F) (Cn.hQ N c L F) N) 1 = y := ⟨_, rfl⟩
  have HA := fun u (hu : Below w.heap.size w u) => orNone_any 29 (fun _ _ => rfl) u ro rn rc y0 _ E0 ((crun_any h w ro rn rc A L C F hr E0 hE0 y0 hy0 _ rfl).below hu)
  have HL := fun u (hu : Below w.heap.size w u) => orLost_any 17 (fun _ _ => rfl) u ro rn rc y z E0 ((cwin_any h w ro rn rc A L C F hr E0 hE0 y hy z hz).below hu)
  have HI := fun u => isRow_any u k r c q nu
  have herr : ∀ E', E' ≠ 0 → (Calls Tryz.prog 15 #[.agg #[.int .i64 k, .int .i64 r, .int .i64 c, .int .i64 q], .slice ro rn rc, .int .i64 nu] w fun e w' => e = .returned (.tuple #[.slice none 0 0, .int .i64 E']) ∧ Below w.heap.size w w') → Calls Tryz.prog 15 #[.agg #[.int .i64 k, .int .i64 r, .int .i64 c, .int .i64 q], .slice ro rn rc, .int .i64 nu] w (AnsL w E' (Cod.cnt (mis (zv N c L F 2 (wnV k N c L F)) c.toNat) N) N (mis (zv N c L F 2 (wnV k N c L F)) c.toNat) (osl N c L F 2 (rnV k N c L F)) nu (sz N c) (fun i => enc (slC 2 N (tS (yy N c L F) 2 (wnV k N c L F) (2 * N)).V c.toNat (cH k.toNat (zv N c L F 2 (wnV k N c L F)) N i) i))) := fun E' hne hc => by
    refine hc.mono ?_
    rintro e w' ⟨rfl, hb⟩
    exact ⟨none, 0, fun _ => none, fun _ => 0, by rw [lenE_ne _ hne], fun e => absurd e hne, hb⟩
  unfold erCF at hE
  rw [hE0] at hE
  by_cases e0 : E0 = 0
  · subst e0
    rw [if_pos rfl] at hE
    have hyv : y = wnV k N c L F := by rw [← hy]; unfold Cn.rdv wnV; rw [if_pos rfl]
    have hy0v : y0 = rnV k N c L F := by rw [← hy0]; unfold Cn.rdv rnV; rw [if_pos rfl]
    have hzb : z = wnB k N c L F := by rw [← hz]; unfold Cn.rdb wnB; simp
    have hx : x = 0 := (erR_zero hE0).1
    by_cases hok : 0 ≤ nu ∧ nu < q
    · rw [if_pos hok, ← hzb] at hE
      rw [decide_eq_true hok] at HI
      unfold erOL lenO at HL
      rw [if_pos rfl] at HL
      cases z
      · rw [if_neg (by decide)] at hE
        rw [if_pos ⟨rfl, rfl⟩, if_neg (by decide)] at HL
        rw [← hE]
        exact herr 5 (by decide) (cFin_err w ro rn rc nu y0 _ 0 5 true HA HI HL 5 (.inr (.inr ⟨rfl, rfl, by decide, rfl⟩)))
      · rw [if_pos rfl] at hE
        rw [if_pos rfl, if_neg (fun e => by cases e.2)] at HL
        rw [hyv] at HL
        rw [hy0v] at HA
        have hwin : 0 < (Cn.wins k (Cn.hP N c L F) (Cn.hQ N c L F) N).length := of_decide_eq_true hzb.symm
        have hk1' : 1 ≤ k := by
          rcases hk1 with a | a
          · exact a
          · exact absurd hx a
        have hne : wnV k N c L F ≠ 0 := (wins_top hk1' hwin (rfl : (Cn.wins k (Cn.hP N c L F) (Cn.hQ N c L F) N).getD 0 0 = wnV k N c L F)).1
        have hb := wnV_bd k N c L F
        have hrow : erK x N c rn L 2 (wnV k N c L F) = 0 := by unfold erK; rw [hE0, if_pos rfl, if_pos ⟨.inr rfl, by omega, hb.2⟩]
        have hW0 : erW 0 q nu (rnV k N c L F) = 0 := by unfold erW; rw [if_pos rfl, if_pos ⟨⟨hok.1, by omega⟩, rnV_bd k N c L F⟩]
        have hF0 : erV2 (erW (erK x N c rn L 2 (wnV k N c L F)) q nu (rnV k N c L F)) (erL k.toNat (zv N c L F 2 (wnV k N c L F)) N) = E := by rw [hrow, hW0]; unfold erV2; rw [if_pos rfl]; exact hE
        refine cFin_good w ro rn rc nu (rnV k N c L F) (wnV k N c L F) (fun w => AnsL w E (Cod.cnt (mis (zv N c L F 2 (wnV k N c L F)) c.toNat) N) N (mis (zv N c L F 2 (wnV k N c L F)) c.toNat) (osl N c L F 2 (rnV k N c L F)) nu (sz N c) (fun i => enc (slC 2 N (tS (yy N c L F) 2 (wnV k N c L F) (2 * N)).V c.toNat (cH k.toNat (zv N c L F 2 (wnV k N c L F)) N i) i))) HA HI HL (fun u hu => (Mend_any h u ro rn rc A L C F (hr.below hu) nu 2 (rnV k N c L F) (wnV k N c L F) E hF0).mono ?_)
        rintro e w' ⟨ao, cap, T, U, rfl, hpl, hb'⟩
        exact ⟨ao, _, cap, E, rfl, fun w0 hw0 hs => ⟨ao, cap, T, U, rfl, fun e => (hpl e).mono hs, below_then hw0 hb'⟩, hb'⟩
    · rw [if_neg hok] at hE
      rw [← hE]
      exact herr 2 (by decide) (cFin_err w ro rn rc nu y0 _ 0 _ (decide (0 ≤ nu ∧ nu < q)) HA HI HL 2 (.inr (.inl ⟨rfl, decide_eq_false hok, rfl⟩)))
  · rw [if_neg e0] at hE
    rw [← hE]
    exact herr E0 e0 (cFin_err w ro rn rc nu y0 _ E0 _ (decide (0 ≤ nu ∧ nu < q)) HA HI HL E0 (.inl ⟨e0, rfl⟩))
end Go.Proofs.YtdmpiipllmjloaaGreat
