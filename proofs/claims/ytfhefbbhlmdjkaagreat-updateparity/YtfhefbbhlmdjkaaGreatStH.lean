/- The numbers of the cells of a version that are there. -/
import Derived.Test.YtfhefbbhlmdjkaaGreatStG
namespace Go.Proofs.YtfhefbbhlmdjkaaGreat
open Go.RowKit

/-- What the row holds of a version, drive by drive. -/
def zv (N : Nat) (c : Int) (L : Nat → Nat) (F : Nat → Nat → UInt8) (kd : UInt8) (v : Int) (i : Nat) : Sl := zz (yy N c L F) kd (tS (yy N c L F) kd v (2 * N)) i
theorem cap_new {wz v v' : World} {gp ty e sz : Nat} (hb : Below wz.heap.size wz v) (hv : v' = v.alloc (.cells #[.slice none 0 0] ty)) (hg : v.heap.size = gp) : Cap wz v' gp ty e sz 0 [] (fun x => x = gp) := by
  refine ⟨none, 0, by rw [← hg]; exact at_made hb hv, World.ownsRow_nil _ _ _ _, fun g => ⟨fun h => .inl h, fun h => ?_⟩⟩
  rcases h with h | ⟨a, ha, _⟩
  · exact h
  · cases ha
set_option maxHeartbeats 4000000 in
set_option maxRecDepth 100000 in
theorem Present_any {k r c q : Int} {N W : Nat} {x : Int} (h : Par k r c q N W x) (w : World) (ro : Option Addr) (rn rc : Nat) (A : Nat → Option Addr) (L C : Nat → Nat) (F : Nat → Nat → UInt8) (hr : Rw w ro rn A L C F) (kd : UInt8) (v : Int) (E : Int) (hE : erK x N c rn L kd v = E) :
    Calls Tryz.prog 10 #[.agg #[.int .i64 k, .int .i64 r, .int .i64 c, .int .i64 q], .slice ro rn rc, .int .u8 ((kd.toNat : Nat) : Int), .int .i64 v] w (Ans w E (ct (zv N c L F kd v) N) (se (zv N c L F kd v) N)) := by
  have HA : Hid (∀ u, Below w.heap.size w u → Calls Tryz.prog 23 #[.agg #[.int .i64 k, .int .i64 r, .int .i64 c, .int .i64 q], .slice ro rn rc, .int .u8 ((kd.toNat : Nat) : Int), .int .i64 v] u fun e w' => e = .returned (.tuple #[if E = 0 then stv k r c q ro rn rc kd else stz, .int .i64 E]) ∧ Below u.heap.size u w') := fun u hu => asked_any h u ro rn rc A L C F (hr.below hu) kd v E hE
  obtain ⟨w0, hw0⟩ : ∃ w0, w0 = w.alloc (.cells #[.int .i64 k, .int .i64 r, .int .i64 c, .int .i64 q] 23) := ⟨_, rfl⟩
  have B0 : Hid (Below w.heap.size w w0) := by show Below _ _ _; rw [hw0]; exact below_alloc _ _
  unfold Ans
  by_cases he : E = 0
  · subst he
    obtain ⟨hR, hk, _⟩ := erK_zero hE
    obtain ⟨rfl, rfl, hL⟩ := erR_zero hR
    have hle := h.le
    obtain ⟨z, hz⟩ : ∃ z, z = zv rn c L F kd v := ⟨_, rfl⟩
    have HEA : Hid (∀ wf gp, Below w.heap.size w wf → Cap w wf gp 36 3 1 0 [] (fun x => x = gp) → Calls Tryz.prog 24 #[stv k r c q ro rn rc kd, .int .i64 v, .func (.func 25) #[] #[.pointer (some ⟨gp, 0, none⟩)]] wf fun e w' => e = .returned (.tuple #[]) ∧ ∃ Y, Cap w w' gp 36 3 1 (ct z rn) (zOf (ct z rn) (se z rn)) Y ∧ Only (fun x => x = gp) wf w' ∧ ∀ g, Y g → g = gp ∨ wf.heap.size ≤ g) := fun wf gp hb hc => by
      rw [hz]
      refine each_any h w wf hb ro rc A L C F hr hL kd hk v _ rfl 25 _ (fun d v' Y => Cap w v' gp 36 3 1 (ct (zv rn c L F kd v) d) (zOf (ct (zv rn c L F kd v) d) (se (zv rn c L F kd v) d)) Y) ⟨fun _ _ => rfl, fun d a b Y hI hb => hI.below hb, fun d a Y hI g hg => hI.at_ g hg, fun d hd u Y B hI _ _ ao ca bo cb _ => ?_⟩ _ hc
      exact present1_any w u gp d (zv rn c L F kd v) Y _ _ (by omega) ao ca bo cb hI
    rw [← hz]
    rw [if_pos rfl] at HA
    clear h hr hE hR hL hk hz
    unfold stv at HA HEA
    go_enter Tryz.func10, Tryz.ntmps10
    go_wp2_with fail
    rw [← hw0]
    clear hw0
    refine (HA.out _ B0.out).mono ?_
    rintro e wa ⟨rfl, ha⟩
    obtain ⟨w2, hw2⟩ : ∃ w2, w2 = wa.alloc (.cells #[.int .i64 k, .int .i64 r, .int .i64 c, .int .i64 q, .slice ro rn rc, .int .u8 ((kd.toNat : Nat) : Int)] 69) := ⟨_, rfl⟩
    obtain ⟨w3, hw3⟩ : ∃ w3, w3 = w2.alloc (.cells #[.slice none 0 0] 36) := ⟨_, rfl⟩
    have ba : Below w.heap.size w wa := below_then B0.out ha
    have b2 : Below w.heap.size w w2 := by rw [hw2]; exact below_then ba (below_alloc _ _)
    have b3 : Below w.heap.size w w3 := by rw [hw3]; exact below_then b2 (below_alloc _ _)
    have z2 : w2.heap.size = wa.heap.size + 1 := by rw [hw2]; simp
    have hE2 := HEA.out w3 (wa.heap.size + 1) b3 (cap_new b2 hw3 z2)
    have HB3 : Hid (Below w.heap.size w w3) := b3
    have HZA : Hid (w.heap.size ≤ wa.heap.size + 1) := by have := ba.size; show _ ≤ _; omega
    clear ha ba b2 b3 z2
    go_wp2_with fail
    rw [← hw2, ← hw3]
    clear hw2 hw3
    refine hE2.mono ?_
    rintro e wf ⟨rfl, Y, ⟨ao, cap, hAt, hown, _⟩, hO, _⟩
    have s0 := hAt.cell (i := 0) rfl
    go_wp2_with fail
    go_ret2
    refine ⟨ao, cap, rfl, hown, ?_⟩
    exact HB3.out.trans (hO.below (fun i hi => by have := HZA.out; omega) HB3.out.size)
  · rw [if_neg he] at HA
    have e1 : (E != 0) = true := by simp [he]
    have e2 : lenE E (ct (zv N c L F kd v) N) = 0 := if_neg he
    rw [e2]
    clear h hr hE e2
    unfold stz at HA
    go_enter Tryz.func10, Tryz.ntmps10
    go_wp2_with fail
    rw [← hw0]
    clear hw0
    refine (HA.out _ B0.out).mono ?_
    rintro e wa ⟨rfl, ha⟩
    go_wp2_with fail
    go_ret2
    exact ⟨none, 0, rfl, own_nil _ _ _, below_then (below_then B0.out ha) (below_alloc _ _)⟩
end Go.Proofs.YtfhefbbhlmdjkaaGreat
