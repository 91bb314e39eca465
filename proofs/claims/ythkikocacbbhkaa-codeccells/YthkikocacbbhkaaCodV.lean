/- What Verify of the program answers. -/
import Derived.Test.YthkikocacbbhkaaCodJ
namespace Go.Proofs.Ythkikocacbbhkaa
open Go.RowKit

def okVer (ll : Nat) (L : Nat → Nat) (k r : Int) : Bool := mayB k r && (okC ll L (k + r) && decide (k + r ≤ (cnt L ll : Int)))
/-- Whether the parity cells are those that the data cells make. -/
def verB (k r m : Nat) (H : M) : Bool := eqAll r m (par k H) (fun i => H (k + i))
def Told2 (w : World) (v : Bool) (err : Int) (e : Ending) (w' : World) : Prop := e = .returned (.tuple #[.bool v, .int .i64 err]) ∧ Below w.heap.size w w'
theorem Lst.from {w : World} {b off : Nat} {k r : Nat} {A : Nat → Option Addr} {C L : Nat → Nat} {H : M} (h : Lst w (some ⟨b, off, none⟩) (k + r) A C L H) : Lst w (some ⟨b, off + k, none⟩) r (fun i => A (k + i)) (fun i => C (k + i)) (fun i => L (k + i)) (fun i => H (k + i)) :=
  ⟨fun i hi => h.rd (k + i) (by omega), fun hp => by
    obtain ⟨b', off', e, hc⟩ := h.at_ (by omega)
    cases e
    exact ⟨b, off + k, rfl, fun i hi => by rw [Nat.add_assoc]; exact hc (k + i) (by omega)⟩⟩
theorem Lst.upto {w : World} {lo : Option Addr} {k r : Nat} {A : Nat → Option Addr} {C L : Nat → Nat} {H : M} (h : Lst w lo (k + r) A C L H) : Lst w lo k A C L H :=
  ⟨fun i hi => h.rd i (by omega), fun hp => by
    obtain ⟨b', off', e, hc⟩ := h.at_ (by omega)
    exact ⟨b', off', e, fun i hi => hc i (by omega)⟩⟩

set_option maxHeartbeats 600000 in
set_option maxRecDepth 100000 in
theorem Verify_any (w : World) (k r : Int) (lo : Option Addr) (ll cl : Nat) (A : Nat → Option Addr) (C L : Nat → Nat) (H : M) (hl : Lst w lo ll A C L H) (hcl : ll ≤ cl) :
    Calls Try.prog 11 #[.int .i64 k, .int .i64 r, .slice lo ll cl] w (Told2 w (okVer ll L k r && verB k.toNat r.toNat (len0 L ll) H) (errE (mayB k r) (okVer ll L k r))) := by
  have HM := may_any w k r
  cases hmay : mayB k r
  · rw [show okVer ll L k r = false by unfold okVer; rw [hmay]; rfl]
    rw [hmay] at HM
    clear hmay
    go_enter Try.func11, Try.ntmps11
    go_wp2_with (go_at_call 23; refine HM.mono ?_; rintro e w' ⟨rfl, rfl⟩)
    go_ret2
    exact ⟨rfl, Below.refl _ _⟩
  · obtain ⟨h1, h2, h3, h4⟩ := mayB_true hmay
    rw [hmay] at HM
    have HT := there_any w lo ll cl A C L H (k + r) (by omega) hl
    cases hoc : okC ll L (k + r)
    · have HOK : Hid (okVer ll L k r = false) := by show _ = _; unfold okVer; rw [hoc, Bool.false_and, Bool.and_false]
      unfold There at HT
      rw [hoc] at HT
      have e1 : errB false 40 = 40 := rfl
      clear hmay hoc hl
      go_enter Try.func11, Try.ntmps11
      go_wp2_with (first | (go_at_call 23; refine HM.mono ?_; rintro e w' ⟨rfl, rfl⟩) | (go_at_call 24; refine HT.mono ?_; rintro e w1 ⟨ao, cap, rfl, _, _, _, hb⟩))
      go_ret2
      rw [HOK.out]
      exact ⟨rfl, hb⟩
    · obtain ⟨hll, hokT⟩ := okC_true hoc
      obtain ⟨k, rfl⟩ := Int.eq_ofNat_of_zero_le (show 0 ≤ k by omega)
      obtain ⟨r, rfl⟩ := Int.eq_ofNat_of_zero_le h3
      obtain rfl : ll = k + r := by omega
      clear hll
      rw [Int.toNat_natCast, Int.toNat_natCast]
      unfold There at HT
      rw [hoc] at HT
      have e1 : errB true 40 = 0 := rfl
      have e2 : lenB true (cnt L (k + r)) = cnt L (k + r) := rfl
      obtain ⟨cn, hcn⟩ : ∃ cn, cn = cnt L (k + r) := ⟨_, rfl⟩
      rw [← hcn] at HT e2
      by_cases hck : cn < k + r
      · have HOK : Hid (okVer (k + r) L k r = false) := by show _ = _; unfold okVer; rw [show decide ((k : Int) + (r : Int) ≤ (cnt L (k + r) : Int)) = false from decide_eq_false (by omega), Bool.and_false, Bool.and_false]
        have hci : (cn : Int) < (k : Int) + (r : Int) := by omega
        clear hmay hoc hl hokT hcn
        go_enter Try.func11, Try.ntmps11
        go_wp2_with (first | (go_at_call 23; refine HM.mono ?_; rintro e w' ⟨rfl, rfl⟩) | (go_at_call 24; refine HT.mono ?_; rintro e w1 ⟨ao, cap, rfl, _, _, _, hb⟩))
        go_ret2
        rw [HOK.out]
        exact ⟨rfl, hb⟩
      · have HOK : Hid (okVer (k + r) L k r = true) := by show _ = _; unfold okVer; rw [hmay, hoc, show decide ((k : Int) + (r : Int) ≤ (cnt L (k + r) : Int)) = true from decide_eq_true (by omega)]; rfl
        obtain ⟨m1, m2, m3⟩ := alike_of hokT (by omega)
        obtain ⟨m, hm⟩ : ∃ m, m = len0 L (k + r) := ⟨_, rfl⟩
        rw [← hm] at m1 m2 m3 ⊢
        have HLm : Hid (∀ i, i < k + r → L i = m) := fun i hi => by
          rcases m3 i hi with g | g
          · exact absurd g (all_there (by omega) i hi)
          · exact g
        have hmm := @run_makeMap Try.prog
        have HL : Hid (Lst w lo (k + r) A C L H) := hl
        obtain ⟨bl, ol, rfl, _⟩ := hl.at_ (by omega)
        have i1 : (k : Int) ≤ (cl : Int) := by omega
        have i2 : (k : Int) ≤ (k : Int) + (r : Int) := by omega
        have i3 : (k : Int) + (r : Int) ≤ (cl : Int) := by omega
        have hci : ¬ ((cn : Int) < (k : Int) + (r : Int)) := by omega
        clear hmay hoc hl hokT m3 hcn hm
        go_enter Try.func11, Try.ntmps11
        go_wp2_with (first
          | (go_at_call 23; refine HM.mono ?_; rintro e w' ⟨rfl, rfl⟩)
          | (go_at_call 24; refine HT.mono ?_; rintro e w1 ⟨ao, cap, rfl, _, _, _, hb⟩))
        have b0 : Below w1.drew.heap.size w1.drew (w1.drew.alloc (.map #[] 0)) := (Below.refl _ _).alloc (Nat.le_refl _) _
        have HP := parity_any (w1.drew.alloc (.map #[] 0)) w1.drew.heap.size w1.drew.heap.size k r 0 m (some ⟨bl, ol, none⟩) cl A C L H (by omega) (by omega) (by omega) m1 m2 (by omega) (by simp) (Kept.made w1.drew k r) (((HL.out.below hb).below (below_drew _ w1)).below b0).upto (fun i hi => HLm.out i (by omega))
        by_cases hcap : cl = k
        · have HR0 : Hid (r = 0) := by show _ = _; omega
          have HZ : Hid (∀ w2, Lst w2 (some ⟨bl, ol, none⟩) r (fun _ => none) (fun _ => 0) (fun _ => m) (fun i => H (k + i))) := fun w2 => ⟨fun i hi => absurd hi (by have := HR0.out; omega), fun hp => absurd hp (by have := HR0.out; omega)⟩
          subst hcap
          go_region_held3 (fun _ => True) (trivial) (first
            | (go_at_call 25; refine HP.mono ?_; rintro e w2 ⟨ao2, cap2, T, U, rfl, hcop, hk2, hke⟩
               have bw2 : Below w1.drew.heap.size w1.drew w2 := below_map hke
               have HE : Calls Try.prog 27 #[.slice ao2 r cap2, .slice (some ⟨bl, ol, none⟩) 0 0, .func (.func 28) #[] #[]] w2 fun e w' => e = .returned (.bool (eqAll r m (par cl H) fun i => H (cl + i))) ∧ w' = w2 := (by have h0 := HR0.out; have hz := HZ.out w2; have hc := hcop.lst; rw [h0] at hz hc ⊢; exact eqfunc_any w2 ao2 (some ⟨bl, ol, none⟩) 0 cap2 0 m T (fun _ => none) U (fun _ => 0) (fun _ => m) (fun _ => m) (par cl H) (fun i => H (cl + i)) (by omega) hc hz (fun _ _ => rfl) (fun _ _ => rfl)))
            | (go_at_call 27; refine HE.mono ?_; rintro e w3 ⟨rfl, hw3⟩; obtain rfl := hw3.symm))
          go_wp2
          go_ret2
          rw [HOK.out]
          exact ⟨rfl, below_step hb (below_step (below_drew _ w1) bw2 (Nat.le_refl _)) hb.size⟩
        · have hkc : ¬ k = cl := fun e => hcap e.symm
          go_region_held3 (fun _ => True) (trivial) (first
            | (go_at_call 25; refine HP.mono ?_; rintro e w2 ⟨ao2, cap2, T, U, rfl, hcop, hk2, hke⟩
               have bw2 : Below w1.drew.heap.size w1.drew w2 := below_map hke
               have HE := eqfunc_any w2 ao2 (some ⟨bl, ol + k, none⟩) r cap2 (cl - k) m T _ U _ (fun _ => m) _ (par k H) _ (by omega) hcop.lst (((HL.out.below hb).below (below_drew _ w1)).below bw2).from (fun _ _ => rfl) (fun i hi => HLm.out (k + i) (by omega)))
            | (go_at_call 27; refine HE.mono ?_; rintro e w3 ⟨rfl, hw3⟩; obtain rfl := hw3.symm))
          go_wp2
          go_ret2
          rw [HOK.out]
          exact ⟨rfl, below_step hb (below_step (below_drew _ w1) bw2 (Nat.le_refl _)) hb.size⟩
end Go.Proofs.Ythkikocacbbhkaa
