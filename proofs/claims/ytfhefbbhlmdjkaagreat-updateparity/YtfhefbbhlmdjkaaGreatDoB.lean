/- The vector of a version, as the program tells it. -/
import Derived.Test.YtfhefbbhlmdjkaaGreatStH
namespace Go.Proofs.YtfhefbbhlmdjkaaGreat
open Go.RowKit

/-- A vector, whether there is one, and an error. -/
def AnsVb (w : World) (E : Int) (t : Sl) (e : Ending) (w' : World) : Prop := ∃ ao ca, e = .returned (.tuple #[.slice ao (lenE E t.vn) ca, .bool (decide (E = 0 ∧ t.ce ≠ 0)), .int .i64 E]) ∧ Own w.heap.size w' ao (lenE E t.vn) ca t.V ∧ Below w.heap.size w w'
set_option maxHeartbeats 4000000 in
set_option maxRecDepth 100000 in
theorem Vector_any {k r c q : Int} {N W : Nat} {x : Int} (h : Par k r c q N W x) (w : World) (ro : Option Addr) (rn rc : Nat) (A : Nat → Option Addr) (L C : Nat → Nat) (F : Nat → Nat → UInt8) (hr : Rw w ro rn A L C F) (kd : UInt8) (v : Int) (E : Int) (hE : erK x N c rn L kd v = E) (t : Sl) (ht : tS (yy N c L F) kd v (2 * N) = t) :
    Calls Tryz.prog 16 #[.agg #[.int .i64 k, .int .i64 r, .int .i64 c, .int .i64 q], .slice ro rn rc, .int .u8 ((kd.toNat : Nat) : Int), .int .i64 v] w (AnsVb w E t) := by
  have HA : Hid (∀ u, Below w.heap.size w u → Calls Tryz.prog 23 #[.agg #[.int .i64 k, .int .i64 r, .int .i64 c, .int .i64 q], .slice ro rn rc, .int .u8 ((kd.toNat : Nat) : Int), .int .i64 v] u fun e w' => e = .returned (.tuple #[if E = 0 then stv k r c q ro rn rc kd else stz, .int .i64 E]) ∧ Below u.heap.size u w') := fun u hu => asked_any h u ro rn rc A L C F (hr.below hu) kd v E hE
  obtain ⟨w0, hw0⟩ : ∃ w0, w0 = w.alloc (.cells #[.int .i64 k, .int .i64 r, .int .i64 c, .int .i64 q] 23) := ⟨_, rfl⟩
  have B0 : Hid (Below w.heap.size w w0) := by show Below _ _ _; rw [hw0]; exact below_alloc _ _
  unfold AnsVb
  by_cases he : E = 0
  · subst he
    obtain ⟨hR, hk, _⟩ := erK_zero hE
    obtain ⟨rfl, rfl, hL⟩ := erR_zero hR
    have HV : Hid (∀ u, Below w.heap.size w u → Calls Tryz.prog 36 #[stv k r c q ro rn rc kd, .int .i64 v] u (AnsV u t)) := fun u hu => vector_any h u ro rc A L C F (hr.below hu) hL kd hk v t ht
    rw [if_pos rfl] at HA
    have ht0 : t.ce = 0 → t = zSl := fun e => by
      rcases tS_is (v := v) hk (yy_ok rn c L F) (2 * rn) (Nat.le_refl _) with ⟨a, _⟩ | ⟨j, _, a2, _, a4, _⟩
      · rw [← ht]; exact a
      · rw [ht] at a2; rw [a2] at e; exact absurd e (ok_of a4.1).ne
    rw [show lenE 0 t.vn = t.vn from rfl]
    clear h hr hE hR hL hk ht
    unfold stv at HA HV
    by_cases h0 : t.ce = 0
    · obtain rfl := ht0 h0
      rw [show decide ((0 : Int) = 0 ∧ zSl.ce ≠ 0) = false from rfl, show zSl.vn = 0 from rfl]
      clear ht0 h0
      go_enter Tryz.func16, Tryz.ntmps16
      go_wp2_with fail
      rw [← hw0]
      clear hw0
      refine (HA.out _ B0.out).mono ?_
      rintro e wa ⟨rfl, ha⟩
      obtain ⟨w2, hw2⟩ : ∃ w2, w2 = wa.alloc (.cells #[.int .i64 k, .int .i64 r, .int .i64 c, .int .i64 q, .slice ro rn rc, .int .u8 ((kd.toNat : Nat) : Int)] 69) := ⟨_, rfl⟩
      have B2 : Hid (Below w.heap.size w w2) := by show Below _ _ _; rw [hw2]; exact below_then (below_then B0.out ha) (below_alloc _ _)
      clear ha
      go_wp2_with fail
      rw [← hw2]
      clear hw2
      refine (HV.out _ B2.out).mono ?_
      rintro e wf ⟨ao, ca, rfl, hown, hnil, hb⟩
      have HO : Hid (Own w.heap.size wf ao 0 ca zSl.V) := hown.mono B2.out.size
      have HBF : Hid (Below w.heap.size w wf) := below_then B2.out hb
      obtain rfl : ao = none := hnil.2 rfl
      obtain ⟨_, rfl⟩ := hown.vec.nil rfl
      have hq := neqv_no
      clear hown hnil hb
      go_wp2_with fail
      refine bodyPost_ret (v := .tuple #[.slice none 0 0, .bool false, .int .i64 0]) (by simp [results, Tryz.results16, go_sem]) rfl ?_
      exact ⟨none, 0, rfl, HO.out, HBF.out⟩
    · rw [show decide ((0 : Int) = 0 ∧ t.ce ≠ 0) = true from decide_eq_true ⟨rfl, h0⟩]
      clear ht0
      go_enter Tryz.func16, Tryz.ntmps16
      go_wp2_with fail
      rw [← hw0]
      clear hw0
      refine (HA.out _ B0.out).mono ?_
      rintro e wa ⟨rfl, ha⟩
      obtain ⟨w2, hw2⟩ : ∃ w2, w2 = wa.alloc (.cells #[.int .i64 k, .int .i64 r, .int .i64 c, .int .i64 q, .slice ro rn rc, .int .u8 ((kd.toNat : Nat) : Int)] 69) := ⟨_, rfl⟩
      have B2 : Hid (Below w.heap.size w w2) := by show Below _ _ _; rw [hw2]; exact below_then (below_then B0.out ha) (below_alloc _ _)
      clear ha
      go_wp2_with fail
      rw [← hw2]
      clear hw2
      refine (HV.out _ B2.out).mono ?_
      rintro e wf ⟨ao, ca, rfl, hown, hnil, hb⟩
      have HO : Hid (Own w.heap.size wf ao t.vn ca t.V) := hown.mono B2.out.size
      have HBF : Hid (Below w.heap.size w wf) := below_then B2.out hb
      obtain ⟨a, rfl⟩ : ∃ a, ao = some a := by
        cases ao with
        | none => exact absurd (hnil.1 rfl) h0
        | some a => exact ⟨a, rfl⟩
      have hq := neqv_yes
      clear hown hnil hb h0
      go_wp2_with fail
      refine bodyPost_ret (v := .tuple #[.slice (some a) t.vn ca, .bool true, .int .i64 0]) (by simp [results, Tryz.results16, go_sem]) rfl ?_
      exact ⟨some a, ca, rfl, HO.out, HBF.out⟩
  · rw [if_neg he] at HA
    have e1 : (E != 0) = true := by simp [he]
    have hd : decide (E = 0 ∧ t.ce ≠ 0) = false := decide_eq_false fun a => he a.1
    rw [show lenE E t.vn = 0 from if_neg he, hd]
    clear h hr hE hd
    unfold stz at HA
    go_enter Tryz.func16, Tryz.ntmps16
    go_wp2_with fail
    rw [← hw0]
    clear hw0
    refine (HA.out _ B0.out).mono ?_
    rintro e wa ⟨rfl, ha⟩
    go_wp2_with fail
    refine bodyPost_ret (v := .tuple #[.slice none 0 0, .bool false, .int .i64 E]) (by simp [results, Tryz.results16, go_sem]) rfl ?_
    exact ⟨none, 0, rfl, own_nil _ _ _, below_then (below_then B0.out ha) (below_alloc _ _)⟩
end Go.Proofs.YtfhefbbhlmdjkaaGreat
