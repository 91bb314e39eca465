import Derived.Test.YtemlojjkokooeaaGreatTj26
set_option maxHeartbeats 4000000
set_option maxRecDepth 100000
namespace Go.Proofs.YtemlojjkokooeaaGreat
open Go.RowKit
theorem str_ne' (X : List UInt8) : ((sOf X).toList != (sOf X).toList) = false := by simp
theorem lsF_congr' {n : Nat} {F G : Nat -> UInt8} (h : ∀ i, i < n -> F i = G i) : lsF n F = lsF n G := by
 unfold lsF; exact List.map_congr_left fun i hi => h i (List.mem_range.1 hi)
theorem SameRow_any (w : World) (ao bo : Option Addr) (n ca cb : Nat) (A B : Nat -> Option Addr) (L C D : Nat -> Nat) (F G : Nat -> Nat -> UInt8) (ha : Rw w ao n A L C F) (hb : Rw w bo n B L D G) (hn : n <= 9223372036854775807) (he : ∀ i, i < 2 * n -> ∀ j, j < L i -> F i j = G i j) :
  Calls Tryz.prog 21 #[.slice ao n ca, .slice bo n cb] w fun e w' => e = .returned (.bool true) /\ Below w.heap.size w w' := by
 have HA : Hid (Rw w ao n A L C F) := ha
 have HB : Hid (Rw w bo n B L D G) := hb
 have HS : Hid (∀ i, i < 2 * n -> ∀ j, j < L i -> F i j = G i j) := he
 clear ha hb he
 have hnn : ((n : Int) != (n : Int)) = false := by simp
 go_enter Tryz.func21, Tryz.ntmps21
 go_wp2
 go_loopw [5] (fun x wr => ∃ i : Nat, i <= n /\ x = .int .i64 i /\ Hid (Below w.heap.size w wr)) (fun x _ => n - (intOf x).toNat)
 case atStart => exact ⟨0, Nat.zero_le _, rfl, Below.refl _ _⟩
 case round =>
  obtain ⟨i, hi, rfl, hbw⟩ := hrel
  by_cases hlt : i < n
  ·obtain ⟨b, off, rfl, hc⟩ := (HA.out.below hbw.out).at_ (by omega)
   obtain ⟨b', off', rfl, hc'⟩ := (HB.out.below hbw.out).at_ (by omega)
   have c0 := (hc i hlt).1
   have c1 := (hc i hlt).2
   have d0 := (hc' i hlt).1
   have d1 := (hc' i hlt).2
   have v0 : ∀ z, (convert 36 9 (.slice (A (2 * i)) (L (2 * i)) (C (2 * i)))).run Tryz.prog (wr.drewN z) = .ok (.string (sOf (lsF (L (2 * i)) (F (2 * i))))) (wr.drewN z) := fun z => conv_any (((HA.out.below hbw.out).bec (2 * i) (by omega)).below (below_drewN _ _ _))
   have v1 : ∀ z, (convert 36 9 (.slice (A (2 * i + 1)) (L (2 * i + 1)) (C (2 * i + 1)))).run Tryz.prog (wr.drewN z) = .ok (.string (sOf (lsF (L (2 * i + 1)) (F (2 * i + 1))))) (wr.drewN z) := fun z => conv_any (((HA.out.below hbw.out).bec (2 * i + 1) (by omega)).below (below_drewN _ _ _))
   have u0 : ∀ z, (convert 36 9 (.slice (B (2 * i)) (L (2 * i)) (D (2 * i)))).run Tryz.prog (wr.drewN z) = .ok (.string (sOf (lsF (L (2 * i)) (F (2 * i))))) (wr.drewN z) := fun z => by
    rw [lsF_congr' (HS.out (2 * i) (by omega))]
    exact conv_any (((HB.out.below hbw.out).bec (2 * i) (by omega)).below (below_drewN _ _ _))
   have u1 : ∀ z, (convert 36 9 (.slice (B (2 * i + 1)) (L (2 * i + 1)) (D (2 * i + 1)))).run Tryz.prog (wr.drewN z) = .ok (.string (sOf (lsF (L (2 * i + 1)) (F (2 * i + 1))))) (wr.drewN z) := fun z => by
    rw [lsF_congr' (HS.out (2 * i + 1) (by omega))]
    exact conv_any (((HB.out.below hbw.out).bec (2 * i + 1) (by omega)).below (below_drewN _ _ _))
   have e0 := str_ne' (lsF (L (2 * i)) (F (2 * i)))
   have e1 := str_ne' (lsF (L (2 * i + 1)) (F (2 * i + 1)))
   clear hc hc'
   have i1 : (0 : Int) <= (i : Int) := by omega
   have i2 : (i : Int) < (n : Int) := by omega
   go_wp2
   go_quiet (fail)
   go_wp2
   go_roundw
   case rel => exact ⟨i + 1, by omega, by go_num, hbw.out.trans (below_drewN _ _ _)⟩
   case measure => simp [intOf]; omega
  ·go_wp2
   go_ret
   exact ⟨rfl, hbw.out⟩
end Go.Proofs.YtemlojjkokooeaaGreat
