import Derived.Test.YtdmpiipllmjloaaGreatPj28
import Derived.Test.YtdmpiipllmjloaaGreatPj36
import Derived.Test.YtdmpiipllmjloaaGreatPj39
import Derived.Test.YtdmpiipllmjloaaGreatPj43
import Derived.Test.YtdmpiipllmjloaaGreatPj50
namespace Go.Proofs.YtdmpiipllmjloaaGreat
open Go.RowKit
set_option maxRecDepth 100000 in
set_option maxHeartbeats 1000000 in
theorem awake_any (w : World) : Calls Tryz.prog 5 #[] w fun e w' => e = .returned (.bool true) /\ Below w.heap.size w w' := by
  have HP := fun w => Point_any (k := 2) (r := 1) (c := 16) (q := 8) (N := 3) (W := 32) (x := 0) (.inl ⟨by decide, by decide, by decide, rfl⟩) w
  rw [if_pos rfl] at HP
  go_enter Tryz.func5, Tryz.ntmps5
  go_wp2_with fail
  refine (HP _).mono ?_
  rintro e wa ⟨rfl, ha⟩
  go_wp2_with fail
  go_ret
  exact ⟨rfl, ha⟩
set_option maxHeartbeats 4000000 in
set_option maxRecDepth 100000 in
theorem cPuts_err {k r c q : Int} (w : World) (ro : Option Addr) (rn rc : Nat) (nu v len dep : Int) (so : Option Addr) (sn sc : Nat) (y E0 eB : Int) (ok : Bool)
    (HA : Hid (∀ u, Below w.heap.size w u -> Calls Tryz.prog 16 #[.agg #[.int .i64 k, .int .i64 r, .int .i64 c, .int .i64 q], .slice ro rn rc, .func (.func 17) #[] #[]] u fun e w' => e = .returned (.tuple #[.int .i64 y, .int .i64 E0]) /\ Below u.heap.size u w'))
    (HI : Hid (∀ u, Calls Tryz.prog 18 #[.agg #[.int .i64 k, .int .i64 r, .int .i64 c, .int .i64 q], .int .i64 nu] u fun e w' => e = .returned (.bool ok) /\ Below u.heap.size u w'))
    (HB : Hid (eB ≠ 0 -> ∀ u, Below w.heap.size w u -> Calls Tryz.prog 19 #[.agg #[.int .i64 k, .int .i64 r, .int .i64 c, .int .i64 q], .agg #[.int .i64 len, .int .i64 dep, .slice so sn sc]] u fun e w' => ∃ ao cp, e = .returned (.tuple #[.slice ao 0 cp, .int .i64 eB]) /\ Below u.heap.size u w')) (E : Int)
    (hE : (E0 ≠ 0 /\ E = E0) \/ (E0 = 0 /\ (ok = false \/ v <= y \/ 1073741824 < v) /\ E = 2) \/ (E0 = 0 /\ ok = true /\ ¬ v <= y /\ ¬ 1073741824 < v /\ eB ≠ 0 /\ E = eB)) :
    Calls Tryz.prog 6 #[.agg #[.int .i64 k, .int .i64 r, .int .i64 c, .int .i64 q], .slice ro rn rc, .int .i64 nu, .int .i64 v, .agg #[.int .i64 len, .int .i64 dep, .slice so sn sc]] w fun e w' => e = .returned (.tuple #[.slice none 0 0, .int .i64 E]) /\ Below w.heap.size w w' := by
  obtain ⟨w0, hw0⟩ : ∃ w0, w0 = w.alloc (.cells #[.int .i64 k, .int .i64 r, .int .i64 c, .int .i64 q] 23) := ⟨_, rfl⟩
  obtain ⟨w1, hw1⟩ : ∃ w1, w1 = w0.alloc (.cells #[.int .i64 len, .int .i64 dep, .slice so sn sc] 27) := ⟨_, rfl⟩
  have b0 : Below w.heap.size w w0 := by rw [hw0]; exact below_alloc _ _
  have b1 : Below w0.heap.size w0 w1 := by rw [hw1]; exact below_alloc _ _
  have z0 : w0.heap.size = w.heap.size + 1 := by rw [hw0]; simp
  have HQ : Hid (∀ u, Below w1.heap.size w1 u -> (u.cell? ⟨w.heap.size, 0, none⟩ = some (.int .i64 k) /\ u.cell? ⟨w.heap.size, 1, none⟩ = some (.int .i64 r) /\ u.cell? ⟨w.heap.size, 2, none⟩ = some (.int .i64 c) /\ u.cell? ⟨w.heap.size, 3, none⟩ = some (.int .i64 q)) /\ (u.cell? ⟨w.heap.size + 1, 0, none⟩ = some (.int .i64 len) /\ u.cell? ⟨w.heap.size + 1, 1, none⟩ = some (.int .i64 dep) /\ u.cell? ⟨w.heap.size + 1, 2, none⟩ = some (.slice so sn sc))) := fun u hu => ⟨par_held hw0 (below_then b1 hu), by rw [<- z0]; exact ⟨blk_held hw1 hu 0 rfl, blk_held hw1 hu 1 rfl, blk_held hw1 hu 2 rfl⟩⟩
  have HBB : Hid (Below w.heap.size w w1) := below_then b0 b1
  rcases hE with ⟨h0, rfl⟩ | ⟨rfl, h1, rfl⟩ | ⟨rfl, rfl, h2, h3, h4, rfl⟩
  · have hz : (E != 0) = true := by simpa using h0
    go_enter Tryz.func6, Tryz.ntmps6
    go_wp2_with fail
    rw [<- hw0, <- hw1]
    clear hw0 hw1 z0 b0 b1
    refine (HA.out _ HBB.out).mono ?_
    rintro e wa ⟨rfl, ha⟩
    go_wp2_with fail
    go_ret2
    exact ⟨rfl, below_then HBB.out ha⟩
  · cases ok
    · go_enter Tryz.func6, Tryz.ntmps6
      go_wp2_with fail
      rw [<- hw0, <- hw1]
      clear hw0 hw1 z0 b0 b1
      refine (HA.out _ HBB.out).mono ?_
      rintro e wa ⟨rfl, ha⟩
      obtain ⟨⟨s0, s1, s2, s3⟩, _⟩ := HQ.out wa ha
      go_wp2_with fail
      refine (HI.out _).mono ?_
      rintro e wb ⟨rfl, hb⟩
      have hab := below_then ha hb
      clear s0 s1 s2 s3 ha hb
      go_wp2_with fail
      go_ret2
      exact ⟨rfl, below_then HBB.out hab⟩
    · by_cases hv : v <= y
      · have d1 : decide (v <= y) = true := decide_eq_true hv
        go_enter Tryz.func6, Tryz.ntmps6
        go_wp2_with fail
        rw [<- hw0, <- hw1]
        clear hw0 hw1 z0 b0 b1
        refine (HA.out _ HBB.out).mono ?_
        rintro e wa ⟨rfl, ha⟩
        obtain ⟨⟨s0, s1, s2, s3⟩, _⟩ := HQ.out wa ha
        go_wp2_with fail
        refine (HI.out _).mono ?_
        rintro e wb ⟨rfl, hb⟩
        have hab := below_then ha hb
        clear s0 s1 s2 s3 ha hb
        go_wp2_with fail
        go_ret2
        exact ⟨rfl, below_then HBB.out hab⟩
      · have h5 : 1073741824 < v := by
          rcases h1 with h | h | h
          · cases h
          · exact absurd h hv
          · exact h
        have d1 : decide (v <= y) = false := decide_eq_false hv
        have d2 : decide (1073741824 < v) = true := decide_eq_true h5
        go_enter Tryz.func6, Tryz.ntmps6
        go_wp2_with fail
        rw [<- hw0, <- hw1]
        clear hw0 hw1 z0 b0 b1
        refine (HA.out _ HBB.out).mono ?_
        rintro e wa ⟨rfl, ha⟩
        obtain ⟨⟨s0, s1, s2, s3⟩, _⟩ := HQ.out wa ha
        go_wp2_with fail
        refine (HI.out _).mono ?_
        rintro e wb ⟨rfl, hb⟩
        have hab := below_then ha hb
        clear s0 s1 s2 s3 ha hb
        go_wp2_with fail
        go_ret2
        exact ⟨rfl, below_then HBB.out hab⟩
  · have d1 : decide (v <= y) = false := decide_eq_false h2
    have d2 : decide (1073741824 < v) = false := decide_eq_false h3
    have hz : (E != 0) = true := by simpa using h4
    have HB4 := HB.out h4
    go_enter Tryz.func6, Tryz.ntmps6
    go_wp2_with fail
    rw [<- hw0, <- hw1]
    clear hw0 hw1 z0 b0 b1
    refine (HA.out _ HBB.out).mono ?_
    rintro e wa ⟨rfl, ha⟩
    obtain ⟨⟨s0, s1, s2, s3⟩, _⟩ := HQ.out wa ha
    go_wp2_with fail
    refine (HI.out _).mono ?_
    rintro e wb ⟨rfl, hb⟩
    have hab := below_then ha hb
    clear s0 s1 s2 s3 ha hb
    obtain ⟨⟨s0, s1, s2, s3⟩, t0, t1, t2⟩ := HQ.out wb hab
    go_wp2_with fail
    refine (HB4 _ (below_then HBB.out hab)).mono ?_
    rintro e wc ⟨ao, cp, rfl, hc⟩
    have hac := below_then hab hc
    clear s0 s1 s2 s3 t0 t1 t2 hab hc
    go_wp2_with fail
    go_ret2
    exact ⟨rfl, below_then HBB.out hac⟩
set_option maxHeartbeats 4000000 in
set_option maxRecDepth 100000 in
theorem cPuts_good {k r c q : Int} {W : Nat} (w : World) (ro : Option Addr) (rn rc : Nat) (nu v len dep : Int) (so : Option Addr) (sn sc : Nat) (y : Int) (D : Nat -> UInt8) (P : World -> Ending -> World -> Prop)
    (HA : Hid (∀ u, Below w.heap.size w u -> Calls Tryz.prog 16 #[.agg #[.int .i64 k, .int .i64 r, .int .i64 c, .int .i64 q], .slice ro rn rc, .func (.func 17) #[] #[]] u fun e w' => e = .returned (.tuple #[.int .i64 y, .int .i64 0]) /\ Below u.heap.size u w'))
    (HI : Hid (∀ u, Calls Tryz.prog 18 #[.agg #[.int .i64 k, .int .i64 r, .int .i64 c, .int .i64 q], .int .i64 nu] u fun e w' => e = .returned (.bool true) /\ Below u.heap.size u w'))
    (HB : Hid (∀ u, Below w.heap.size w u -> Calls Tryz.prog 19 #[.agg #[.int .i64 k, .int .i64 r, .int .i64 c, .int .i64 q], .agg #[.int .i64 len, .int .i64 dep, .slice so sn sc]] u fun e w' => ∃ ao cp, e = .returned (.tuple #[.slice ao W cp, .int .i64 0]) /\ Bec w' ao W cp D /\ Below u.heap.size u w'))
    (HF : Hid (∀ u ao cp, Below w.heap.size w u -> Bec u ao W cp D -> Calls Tryz.prog 20 #[.agg #[.int .i64 k, .int .i64 r, .int .i64 c, .int .i64 q], .slice ro rn rc, .int .i64 nu, .int .u8 2, .int .i64 y, .int .i64 v, .slice ao W cp] u fun e w' => ∃ lo ln lc, e = .returned (.tuple #[.slice lo ln lc, .int .i64 0]) /\ (∀ w0, Below w0.heap.size w0 u -> w0.heap.size <= u.heap.size -> P w0 (.returned (.tuple #[.slice lo ln lc, .int .i64 0])) w') /\ Below u.heap.size u w'))
    (h1 : ¬ v <= y) (h2 : ¬ 1073741824 < v) :
    Calls Tryz.prog 6 #[.agg #[.int .i64 k, .int .i64 r, .int .i64 c, .int .i64 q], .slice ro rn rc, .int .i64 nu, .int .i64 v, .agg #[.int .i64 len, .int .i64 dep, .slice so sn sc]] w fun e w' => P w e w' := by
  obtain ⟨w0, hw0⟩ : ∃ w0, w0 = w.alloc (.cells #[.int .i64 k, .int .i64 r, .int .i64 c, .int .i64 q] 23) := ⟨_, rfl⟩
  obtain ⟨w1, hw1⟩ : ∃ w1, w1 = w0.alloc (.cells #[.int .i64 len, .int .i64 dep, .slice so sn sc] 27) := ⟨_, rfl⟩
  have b0 : Below w.heap.size w w0 := by rw [hw0]; exact below_alloc _ _
  have b1 : Below w0.heap.size w0 w1 := by rw [hw1]; exact below_alloc _ _
  have z0 : w0.heap.size = w.heap.size + 1 := by rw [hw0]; simp
  have HQ : Hid (∀ u, Below w1.heap.size w1 u -> (u.cell? ⟨w.heap.size, 0, none⟩ = some (.int .i64 k) /\ u.cell? ⟨w.heap.size, 1, none⟩ = some (.int .i64 r) /\ u.cell? ⟨w.heap.size, 2, none⟩ = some (.int .i64 c) /\ u.cell? ⟨w.heap.size, 3, none⟩ = some (.int .i64 q)) /\ (u.cell? ⟨w.heap.size + 1, 0, none⟩ = some (.int .i64 len) /\ u.cell? ⟨w.heap.size + 1, 1, none⟩ = some (.int .i64 dep) /\ u.cell? ⟨w.heap.size + 1, 2, none⟩ = some (.slice so sn sc))) := fun u hu => ⟨par_held hw0 (below_then b1 hu), by rw [<- z0]; exact ⟨blk_held hw1 hu 0 rfl, blk_held hw1 hu 1 rfl, blk_held hw1 hu 2 rfl⟩⟩
  have HBB : Hid (Below w.heap.size w w1) := below_then b0 b1
  have d1 : decide (v <= y) = false := decide_eq_false h1
  have d2 : decide (1073741824 < v) = false := decide_eq_false h2
  go_enter Tryz.func6, Tryz.ntmps6
  go_wp2_with fail
  rw [<- hw0, <- hw1]
  clear hw0 hw1 z0 b0 b1
  refine (HA.out _ HBB.out).mono ?_
  rintro e wa ⟨rfl, ha⟩
  obtain ⟨⟨s0, s1, s2, s3⟩, _⟩ := HQ.out wa ha
  go_wp2_with fail
  refine (HI.out _).mono ?_
  rintro e wb ⟨rfl, hb⟩
  have hab := below_then ha hb
  clear s0 s1 s2 s3 ha hb
  obtain ⟨⟨s0, s1, s2, s3⟩, t0, t1, t2⟩ := HQ.out wb hab
  go_wp2_with fail
  refine (HB.out _ (below_then HBB.out hab)).mono ?_
  rintro e wc ⟨ao, cp, rfl, hbec, hc⟩
  have hac := below_then hab hc
  clear s0 s1 s2 s3 t0 t1 t2 hab hc
  obtain ⟨⟨s0, s1, s2, s3⟩, _⟩ := HQ.out wc hac
  go_wp2_with fail
  refine (HF.out _ ao cp (below_then HBB.out hac) hbec).mono ?_
  rintro e wd ⟨lo, ln, lc, rfl, hP, hd⟩
  have HPP := hP w (below_then HBB.out hac) (below_then HBB.out hac).size
  clear s0 s1 s2 s3 hP
  go_wp2_with fail

  exact HPP
def erCP (x : Int) (W : Nat) (k c q nu v len dep : Int) (N rn : Nat) (L : Nat -> Nat) (F : Nat -> Nat -> UInt8) (n : Nat) (R V : Nat -> Int) : Int :=
  if erR x N c rn L = 0 then (if (0 <= nu /\ nu < q) /\ wnV k N c L F < v /\ v <= 1073741824 then De.erD x W q len dep n R V else 2) else erR x N c rn L
theorem wnV_bd (k : Int) (N : Nat) (c : Int) (L : Nat -> Nat) (F : Nat -> Nat -> UInt8) : 0 <= wnV k N c L F /\ wnV k N c L F <= 1073741824 := by
  unfold wnV
  cases h : Cn.wins k (Cn.hP N c L F) (Cn.hQ N c L F) N with
  | nil => exact ⟨Int.le_refl 0, by decide⟩
  | cons a l =>
    have hm : a ∈ Cn.wins k (Cn.hP N c L F) (Cn.hQ N c L F) N := by rw [h]; simp
    obtain ⟨_, d, _, h2⟩ := Cn.mem_tvL.1 (List.mem_filter.1 hm).1
    show 0 <= a /\ a <= _
    rcases h2 with e | e
    · rw [<- e]; exact Cn.hP_bd N c L F d
    · rw [<- e]; exact Cn.hQ_bd N c L F d
set_option maxRecDepth 100000 in
theorem cPuts_any {k r c q : Int} {N W : Nat} {x : Int} (h : Par k r c q N W x) (w : World) (ro : Option Addr) (rn rc : Nat) (A : Nat -> Option Addr) (L C : Nat -> Nat) (F : Nat -> Nat -> UInt8) (hr : Rw w ro rn A L C F) (nu v len dep : Int) (so : Option Addr) (sn sc : Nat) (R V : Nat -> Int) (hR : De.Rec w so sn sc R V) (E : Int) (hE : erCP x W k c q nu v len dep N rn L F sn R V = E) :
    Calls Tryz.prog 6 #[.agg #[.int .i64 k, .int .i64 r, .int .i64 c, .int .i64 q], .slice ro rn rc, .int .i64 nu, .int .i64 v, .agg #[.int .i64 len, .int .i64 dep, .slice so sn sc]] w (AnsL w E N N (fun _ => c.toNat) (osl N c L F 2 (wnV k N c L F)) nu (sz N c) (fun i => enc (slC 2 N (fun _ => v) c.toNat (dH k.toNat c.toNat (De.deB len dep sn R V) i) i))) := by
  obtain ⟨E0, hE0⟩ : ∃ E0, erR x N c rn L = E0 := ⟨_, rfl⟩
  obtain ⟨y, hy⟩ : ∃ y, Cn.rdv E0 (Cn.wins k (Cn.hP N c L F) (Cn.hQ N c L F) N) 0 = y := ⟨_, rfl⟩
  have HA := fun u (hu : Below w.heap.size w u) => orNone_any 17 (fun _ _ => rfl) u ro rn rc y _ E0 ((cwin_any h w ro rn rc A L C F hr E0 hE0 y hy _ rfl).below hu)
  have HI := fun u => isRow_any u k r c q nu
  have HB := fun u (hu : Below w.heap.size w u) => De.Bytes_any h u len dep so sn sc R V (hR.below hu) _ rfl
  have herr : ∀ E', E' ≠ 0 -> (Calls Tryz.prog 6 #[.agg #[.int .i64 k, .int .i64 r, .int .i64 c, .int .i64 q], .slice ro rn rc, .int .i64 nu, .int .i64 v, .agg #[.int .i64 len, .int .i64 dep, .slice so sn sc]] w fun e w' => e = .returned (.tuple #[.slice none 0 0, .int .i64 E']) /\ Below w.heap.size w w') -> Calls Tryz.prog 6 #[.agg #[.int .i64 k, .int .i64 r, .int .i64 c, .int .i64 q], .slice ro rn rc, .int .i64 nu, .int .i64 v, .agg #[.int .i64 len, .int .i64 dep, .slice so sn sc]] w (AnsL w E' N N (fun _ => c.toNat) (osl N c L F 2 (wnV k N c L F)) nu (sz N c) (fun i => enc (slC 2 N (fun _ => v) c.toNat (dH k.toNat c.toNat (De.deB len dep sn R V) i) i))) := fun E' hne hc => by
    refine hc.mono ?_
    rintro e w' ⟨rfl, hb⟩
    exact ⟨none, 0, fun _ => none, fun _ => 0, by rw [lenE_ne _ hne], fun e => absurd e hne, hb⟩
  unfold erCP at hE
  rw [hE0] at hE
  by_cases e0 : E0 = 0
  · subst e0
    have hyv : y = wnV k N c L F := by rw [<- hy]; unfold Cn.rdv wnV; rw [if_pos rfl]
    rw [if_pos rfl, <- hyv] at hE
    rw [<- hyv]
    rw [<- hyv] at herr
    have hbd := wnV_bd k N c L F
    rw [<- hyv] at hbd
    by_cases hok : (0 <= nu /\ nu < q) /\ y < v /\ v <= 1073741824
    · obtain ⟨o1, o2, o3⟩ := hok
      rw [if_pos ⟨o1, o2, o3⟩] at hE
      obtain ⟨eB, heB⟩ : ∃ eB, De.erD x W q len dep sn R V = eB := ⟨_, rfl⟩
      rw [heB] at hE HB
      rw [decide_eq_true o1] at HI
      unfold De.AnsB at HB
      by_cases hb0 : eB = 0
      · subst hb0
        subst hE
        rw [lenE_zero] at HB
        have hrow : erK x N c rn L 2 v = 0 := by unfold erK; rw [hE0, if_pos rfl, if_pos ⟨.inr rfl, by omega, o3⟩]
        have hW0 : erW 0 q nu y = 0 := by unfold erW; rw [if_pos rfl, if_pos ⟨⟨o1.1, by omega⟩, hbd⟩]
        have hF0 : erD (erW (erK x N c rn L 2 v) q nu y) W W = 0 := by rw [hrow, hW0]; unfold erD; rw [if_pos rfl, if_pos rfl]
        refine cPuts_good (W := W) w ro rn rc nu v len dep so sn sc y (De.deB len dep sn R V) (fun w => AnsL w 0 N N (fun _ => c.toNat) (osl N c L F 2 y) nu (sz N c) (fun i => enc (slC 2 N (fun _ => v) c.toNat (dH k.toNat c.toNat (De.deB len dep sn R V) i) i))) HA HI (fun u hu => (HB u hu).mono ?_) (fun u ao cp hu hbec => (Full_any h u ro rn rc A L C F (hr.below hu) nu 2 y v ao W cp _ hbec 0 hF0).mono ?_) (by omega) (by omega)
        · rintro e w' ⟨ao, cp, rfl, hb, hb'⟩
          exact ⟨ao, cp, rfl, hb.bec, hb'⟩
        · rintro e w' ⟨ao, cap, T, U, rfl, hpl, hb'⟩
          refine ⟨ao, _, cap, rfl, fun w0 hw0 hs => ⟨ao, cap, T, U, rfl, fun _ => (hpl rfl).mono hs, below_then hw0 hb'⟩, hb'⟩
      · rw [lenE_ne _ hb0] at HB
        rw [<- hE]
        refine herr eB hb0 (cPuts_err w ro rn rc nu v len dep so sn sc y 0 eB true HA HI (fun _ u hu => (HB u hu).mono ?_) eB (.inr (.inr ⟨rfl, rfl, by omega, by omega, hb0, rfl⟩)))
        rintro e w' ⟨ao, cp, rfl, _, hb'⟩
        exact ⟨ao, cp, rfl, hb'⟩
    · rw [if_neg hok] at hE
      rw [<- hE]
      refine herr 2 (by decide) ?_
      refine cPuts_err w ro rn rc nu v len dep so sn sc y 0 0 (decide (0 <= nu /\ nu < q)) HA HI (fun e => absurd rfl e) 2 (.inr (.inl ⟨rfl, ?_, rfl⟩))
      by_cases h1 : 0 <= nu /\ nu < q
      · by_cases h2 : v <= y
        · exact .inr (.inl h2)
        · exact .inr (.inr (Classical.byContradiction fun h3 => hok ⟨h1, by omega, by omega⟩))
      · exact .inl (decide_eq_false h1)
  · rw [if_neg e0] at hE
    rw [<- hE]
    exact herr E0 e0 (cPuts_err w ro rn rc nu v len dep so sn sc y E0 0 (decide (0 <= nu /\ nu < q)) HA HI (fun e => absurd rfl e) E0 (.inl ⟨e0, rfl⟩))
end Go.Proofs.YtdmpiipllmjloaaGreat
namespace Go.Proofs.YtdmpiipllmjloaaGreat
open Go.RowKit
set_option maxHeartbeats 4000000 in
set_option maxRecDepth 100000 in
theorem point_bad {k r c q : Int} (w : World) (ro : Option Addr) (rn rc : Nat) (v len dep : Int) (so : Option Addr) (sn sc : Nat) (tob : Option Addr) (tn tc : Nat) (E f y A D : Int) (n : Nat) (R V : Nat -> Int) (hE : ¬ E = 0)
    (HPU : Hid (∀ u, Below w.heap.size w u -> Calls Tryz.prog 6 #[.agg #[.int .i64 k, .int .i64 r, .int .i64 c, .int .i64 q], .slice ro rn rc, .int .i64 0, .int .i64 v, .agg #[.int .i64 len, .int .i64 dep, .slice so sn sc]] u fun e w' => ∃ lo lc, e = .returned (.tuple #[.slice lo 0 lc, .int .i64 E]) /\ Below u.heap.size u w'))
    (HRO : Hid (∀ u, Below w.heap.size w u -> Calls Tryz.prog 7 #[.agg #[.int .i64 k, .int .i64 r, .int .i64 c, .int .i64 q], .slice ro rn rc] u (AnsRd u f y A D n R V))) :
    Calls Tryz.prog 3 #[.agg #[.int .i64 k, .int .i64 r, .int .i64 c, .int .i64 q], .slice ro rn rc, .int .i64 v, .agg #[.int .i64 len, .int .i64 dep, .slice so sn sc], .slice tob tn tc] w fun e w' => e = .returned (.bool true) /\ Below w.heap.size w w' := by
  obtain ⟨w0, hw0⟩ : ∃ w0, w0 = w.alloc (.cells #[.int .i64 k, .int .i64 r, .int .i64 c, .int .i64 q] 23) := ⟨_, rfl⟩
  obtain ⟨w1, hw1⟩ : ∃ w1, w1 = w0.alloc (.cells #[.int .i64 len, .int .i64 dep, .slice so sn sc] 27) := ⟨_, rfl⟩
  have b0 : Below w.heap.size w w0 := by rw [hw0]; exact below_alloc _ _
  have b1 : Below w0.heap.size w0 w1 := by rw [hw1]; exact below_alloc _ _
  have z0 : w0.heap.size = w.heap.size + 1 := by rw [hw0]; simp
  have HQ : Hid (∀ u, Below w1.heap.size w1 u -> (u.cell? ⟨w.heap.size, 0, none⟩ = some (.int .i64 k) /\ u.cell? ⟨w.heap.size, 1, none⟩ = some (.int .i64 r) /\ u.cell? ⟨w.heap.size, 2, none⟩ = some (.int .i64 c) /\ u.cell? ⟨w.heap.size, 3, none⟩ = some (.int .i64 q)) /\ (u.cell? ⟨w.heap.size + 1, 0, none⟩ = some (.int .i64 len) /\ u.cell? ⟨w.heap.size + 1, 1, none⟩ = some (.int .i64 dep) /\ u.cell? ⟨w.heap.size + 1, 2, none⟩ = some (.slice so sn sc))) := fun u hu => ⟨par_held hw0 (below_then b1 hu), by rw [<- z0]; exact ⟨blk_held hw1 hu 0 rfl, blk_held hw1 hu 1 rfl, blk_held hw1 hu 2 rfl⟩⟩
  have B1 : Hid (Below w.heap.size w w1) := below_then b0 b1
  have e1 : (E != 0) = true := by simp [hE]
  have e2 : (E == 0) = false := by simp [hE]
  go_enter Tryz.func3, Tryz.ntmps3
  go_wp2_with fail
  rw [<- hw0, <- hw1]
  clear hw0 hw1 b0 b1 z0
  refine (awake_any _).mono ?_
  rintro e wa ⟨rfl, ha⟩
  have BA : Hid (Below w1.heap.size w1 wa) := ha
  clear ha
  obtain ⟨⟨s0, s1, s2, s3⟩, t0, t1, t2⟩ := HQ.out wa BA.out
  go_wp2_with fail
  refine (HPU.out wa (below_then B1.out BA.out)).mono ?_
  rintro e wf ⟨lo, lc, rfl, hf⟩
  have BF : Hid (Below w1.heap.size w1 wf) := below_then BA.out hf
  clear hf
  clear s0 s1 s2 s3 t0 t1 t2
  obtain ⟨⟨s0, s1, s2, s3⟩, t0, t1, t2⟩ := HQ.out wf BF.out
  go_wp2_with fail
  refine (HRO.out wf (below_then B1.out BF.out)).mono ?_
  rintro e wg ⟨oo, oc, rfl, _, hg⟩
  have BG : Hid (Below w.heap.size w wg) := below_then (below_then B1.out BF.out) hg
  clear hg
  clear s0 s1 s2 s3 t0 t1 t2
  go_wp2_with fail
  go_ret
  exact ⟨rfl, BG.out.alloc BG.out.size _⟩
set_option maxHeartbeats 4000000 in
set_option maxRecDepth 100000 in
theorem point_rbad {K m Z : Nat} {r c q : Int} (w : World) (ro : Option Addr) (rn rc : Nat) (v len dep : Int) (so : Option Addr) (sn sc : Nat) (tob : Option Addr) (tn tc : Nat) (os : Nat -> Nat) (G : Nat -> Nat -> UInt8) (f y A D : Int) (n : Nat) (R V : Nat -> Int) (hf : ¬ f = 0)
    (HPU : Hid (∀ u, Below w.heap.size w u -> Calls Tryz.prog 6 #[.agg #[.int .i64 (K : Int), .int .i64 r, .int .i64 c, .int .i64 q], .slice ro rn rc, .int .i64 0, .int .i64 v, .agg #[.int .i64 len, .int .i64 dep, .slice so sn sc]] u fun e w' => ∃ lo lc T U, e = .returned (.tuple #[.slice lo rn lc, .int .i64 0]) /\ PL u.heap.size w' lo rn lc rn (fun _ => m) os 0 Z T U G /\ Below u.heap.size u w'))
    (HRO : Hid (∀ u, Below w.heap.size w u -> Calls Tryz.prog 7 #[.agg #[.int .i64 (K : Int), .int .i64 r, .int .i64 c, .int .i64 q], .slice ro rn rc] u (AnsRd u f y A D n R V))) :
    Calls Tryz.prog 3 #[.agg #[.int .i64 (K : Int), .int .i64 r, .int .i64 c, .int .i64 q], .slice ro rn rc, .int .i64 v, .agg #[.int .i64 len, .int .i64 dep, .slice so sn sc], .slice tob tn tc] w fun e w' => e = .returned (.bool true) /\ Below w.heap.size w w' := by
  obtain ⟨w0, hw0⟩ : ∃ w0, w0 = w.alloc (.cells #[.int .i64 (K : Int), .int .i64 r, .int .i64 c, .int .i64 q] 23) := ⟨_, rfl⟩
  obtain ⟨w1, hw1⟩ : ∃ w1, w1 = w0.alloc (.cells #[.int .i64 len, .int .i64 dep, .slice so sn sc] 27) := ⟨_, rfl⟩
  have b0 : Below w.heap.size w w0 := by rw [hw0]; exact below_alloc _ _
  have b1 : Below w0.heap.size w0 w1 := by rw [hw1]; exact below_alloc _ _
  have z0 : w0.heap.size = w.heap.size + 1 := by rw [hw0]; simp
  have HQ : Hid (∀ u, Below w1.heap.size w1 u -> (u.cell? ⟨w.heap.size, 0, none⟩ = some (.int .i64 (K : Int)) /\ u.cell? ⟨w.heap.size, 1, none⟩ = some (.int .i64 r) /\ u.cell? ⟨w.heap.size, 2, none⟩ = some (.int .i64 c) /\ u.cell? ⟨w.heap.size, 3, none⟩ = some (.int .i64 q)) /\ (u.cell? ⟨w.heap.size + 1, 0, none⟩ = some (.int .i64 len) /\ u.cell? ⟨w.heap.size + 1, 1, none⟩ = some (.int .i64 dep) /\ u.cell? ⟨w.heap.size + 1, 2, none⟩ = some (.slice so sn sc))) := fun u hu => ⟨par_held hw0 (below_then b1 hu), by rw [<- z0]; exact ⟨blk_held hw1 hu 0 rfl, blk_held hw1 hu 1 rfl, blk_held hw1 hu 2 rfl⟩⟩
  have B1 : Hid (Below w.heap.size w w1) := below_then b0 b1
  have e1 : (f != 0) = true := by simp [hf]
  go_enter Tryz.func3, Tryz.ntmps3
  go_wp2_with fail
  rw [<- hw0, <- hw1]
  clear hw0 hw1 b0 b1 z0
  refine (awake_any _).mono ?_
  rintro e wa ⟨rfl, ha⟩
  have BA : Hid (Below w1.heap.size w1 wa) := ha
  clear ha
  obtain ⟨⟨s0, s1, s2, s3⟩, t0, t1, t2⟩ := HQ.out wa BA.out
  go_wp2_with fail
  refine (HPU.out wa (below_then B1.out BA.out)).mono ?_
  rintro e wf ⟨lo, lc, T, U, rfl, hpl, hf⟩
  have BF : Hid (Below w1.heap.size w1 wf) := below_then BA.out hf
  have HPL : Hid (PL wa.heap.size wf lo rn lc rn (fun _ => m) os 0 Z T U G) := hpl
  clear hpl hf
  clear s0 s1 s2 s3 t0 t1 t2
  obtain ⟨⟨s0, s1, s2, s3⟩, t0, t1, t2⟩ := HQ.out wf BF.out
  go_wp2_with fail
  refine (HRO.out wf (below_then B1.out BF.out)).mono ?_
  rintro e wg ⟨oo, oc, rfl, _, hg⟩
  have BG : Hid (Below w.heap.size w wg) := below_then (below_then B1.out BF.out) hg
  clear hg
  clear s0 s1 s2 s3 t0 t1 t2
  go_wp2_with fail
  go_ret
  exact ⟨rfl, BG.out.alloc BG.out.size _⟩
end Go.Proofs.YtdmpiipllmjloaaGreat
