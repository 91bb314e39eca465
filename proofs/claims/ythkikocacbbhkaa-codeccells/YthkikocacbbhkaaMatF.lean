/- What Cauchy, Turned, Mul, Pick, Rank and Inverse of the program answer. -/
import Derived.Test.YthkikocacbbhkaaMatE
namespace Go.Proofs.Ythkikocacbbhkaa
open Go.RowKit

theorem held {w w' : World} {a : Addr} {v : Value} (h : w.cell? a = some v) (hb : Below w.heap.size w w') : w'.cell? a = some v := (hb.cell (World.block_lt_of_cell? w _ h)).trans h
theorem makes (fn : Fn) (first cap : Array Value) (w : World) : (Instr.makeFunc fn first cap).run Try.prog w = .ok (.func fn first cap) w := rfl
/-- Row i of a list, and the byte j of it. -/
theorem Lst.spot {w : World} {lo : Option Addr} {ll : Nat} {A : Nat → Option Addr} {C L : Nat → Nat} {H : M} (h : Lst w lo ll A C L H) {i j : Nat} (hi : i < ll) (hj : j < L i) :
    ∃ b off b' off', lo = some ⟨b, off, none⟩ ∧ A i = some ⟨b', off', none⟩ ∧ w.cell? ⟨b, off + i, none⟩ = some (.slice (some ⟨b', off', none⟩) (L i) (C i)) ∧ w.cell? ⟨b', off' + j, none⟩ = some (.int .u8 ((H i j).n : Int)) := by
  obtain ⟨b, off, rfl, hc⟩ := h.at_ (by omega)
  obtain ⟨b', off', e, hc'⟩ := h.rd i hi (by omega)
  exact ⟨b, off, b', off', rfl, e, by rw [← e]; exact hc i hi, hc' j hj⟩

theorem Mat.lower {w : World} {B B' T l cl rows cols : Nat} {G U : Nat → Nat} {H : M} (h : Mat w B T l cl rows cols G U H) (hb : B' ≤ B) : Mat w B' T l cl rows cols G U H :=
  ⟨h.lst, h.room, h.row, Nat.le_trans hb h.lo, h.hi, fun i hi => Nat.le_trans hb (h.los i hi), h.his, h.apart⟩
theorem made_of {w w1 w2 : World} {l n cols : Nat} {G U : Nat → Nat} {H : M} {err : Int} (hb1 : Below w.heap.size w w1) (hm : Mat w2 w1.heap.size w2.heap.size l n n cols G U H) (hb : Below w1.heap.size w1 w2) :
    Made w true err n cols H (.returned (.tuple #[.slice (some ⟨l, 0, none⟩) n n, .int .i64 0])) w2 :=
  ⟨_, _, rfl, .inr ⟨l, G, U, rfl, hm.lower hb1.size⟩, below_step hb1 hb hb1.size⟩
theorem made_no {w w1 : World} {n cols : Nat} {H : M} {err : Int} (hb1 : Below w.heap.size w w1) : Made w false err n cols H (.returned (.tuple #[.slice none 0 0, .int .i64 err])) w1 :=
  ⟨none, 0, rfl, .inl ⟨rfl, rfl, rfl⟩, hb1⟩

set_option maxHeartbeats 400000 in
set_option maxRecDepth 100000 in
theorem cauchy_rule (w : World) (p k r : Nat) (hk : k ≤ 12) (hr : r ≤ 4) (hp : w.cell? ⟨p, 0, none⟩ = some (.int .i64 (k : Int))) :
    Rule w 55 #[.pointer (some ⟨p, 0, none⟩)] r k (cau k) := by
  intro w' i j hb hi hj
  show Calls Try.prog 55 #[.int .i64 (i : Int), .int .i64 (j : Int), .pointer (some ⟨p, 0, none⟩)] w' _
  have c0 := held hp hb
  have e1 : ((K.of (k + i)).n : Int) = (k : Int) + (i : Int) := by rw [K.of_n _ (by omega)]; omega
  have e2 : ((K.of j).n : Int) = (j : Int) := by rw [K.of_n _ (by omega)]
  have hne : (K.add (K.of (k + i)) (K.of j)) ≠ 0 := K.sub_ne fun e => by have := of_inj (by omega) (by omega) e; omega
  have HA : Hid (Calls Try.prog 57 #[.int .u8 ((k : Int) + (i : Int)), .int .u8 (j : Int)] w' fun e w'' => e = .returned (.int .u8 (((K.add (K.of (k + i)) (K.of j))).n : Int)) ∧ w'' = w') := by rw [← e1, ← e2]; exact add_k _ _ w'
  have HI : Hid (Calls Try.prog 56 #[.int .u8 (((K.add (K.of (k + i)) (K.of j))).n : Int)] w' fun e w'' => e = .returned (.tuple #[.int .u8 ((cau k i j).n : Int), .int .i64 0]) ∧ w'' = w') := inv_k _ w' hne
  clear hp hb e1 e2 hne
  obtain ⟨X, hX⟩ : ∃ X, X = cau k i j := ⟨_, rfl⟩
  rw [← hX] at HI ⊢
  obtain ⟨Y, hY⟩ : ∃ Y, Y = (K.add (K.of (k + i)) (K.of j)) := ⟨_, rfl⟩
  rw [← hY] at HI HA
  clear hX hY
  have m1 : ((k : Int) + (i : Int)) % 256 = (k : Int) + (i : Int) := by omega
  have m2 : (j : Int) % 256 = (j : Int) := by omega
  go_enter Try.func55, Try.ntmps55
  go_wp2_with fail
  refine HA.out.mono ?_
  rintro e w'' ⟨rfl, hw'⟩
  obtain rfl := hw'.symm
  go_wp2_with fail
  refine HI.out.mono ?_
  rintro e w'' ⟨rfl, hw'⟩
  obtain rfl := hw'.symm
  go_wp2_with fail
  go_ret
  exact ⟨rfl, 0, rfl⟩

set_option maxHeartbeats 400000 in
set_option maxRecDepth 100000 in
theorem cauchy_any (w : World) (k r : Int) : Calls Try.prog 42 #[.int .i64 k, .int .i64 r] w (Made w (okN k 12 && okN r 4) 2 r.toNat k.toNat (cau k.toNat)) := by
  obtain ⟨w1, hw1⟩ : ∃ w1, w1 = w.alloc (.cells #[.int .i64 k] 3) := ⟨_, rfl⟩
  have hb1 : Below w.heap.size w w1 := by rw [hw1]; exact (Below.refl _ _).alloc (Nat.le_refl _) _
  have cp : w1.cell? ⟨w.heap.size, 0, none⟩ = some (.int .i64 k) := by rw [hw1, World.cell?_alloc_at _ _ _ _ rfl]; rfl
  have W1 := within_any w1 k 12
  rw [show decide (1 ≤ k ∧ k ≤ 12) = okN k 12 from rfl] at W1
  have W2 := within_any w1 r 4
  rw [show decide (1 ≤ r ∧ r ≤ 4) = okN r 4 from rfl] at W2
  cases hok : okN k 12
  · rw [hok] at W1
    go_enter Try.func42, Try.ntmps42
    go_wp2_with fail
    rw [← hw1]
    refine W1.mono ?_
    rintro e w' ⟨rfl, hw'⟩
    obtain rfl := hw'.symm
    clear hw1
    go_wp2_with fail
    go_ret2
    exact made_no hb1
  · cases hok2 : okN r 4
    · rw [hok] at W1
      rw [hok2] at W2
      go_enter Try.func42, Try.ntmps42
      go_wp2_with fail
      rw [← hw1]
      refine W1.mono ?_
      rintro e w' ⟨rfl, hw'⟩
      obtain rfl := hw'.symm
      clear hw1
      go_wp2_with fail
      refine W2.mono ?_
      rintro e w' ⟨rfl, hw'⟩
      obtain rfl := hw'.symm
      go_wp2_with fail
      go_ret2
      exact made_no hb1
    · have h1 := of_decide_eq_true hok
      have h2 := of_decide_eq_true hok2
      rw [hok] at W1
      rw [hok2] at W2
      obtain ⟨k, rfl⟩ := Int.eq_ofNat_of_zero_le (show 0 ≤ k by omega)
      obtain ⟨r, rfl⟩ := Int.eq_ofNat_of_zero_le (show 0 ≤ r by omega)
      rw [Int.toNat_natCast, Int.toNat_natCast]
      have HMD := made_any w1 r k 55 #[.pointer (some ⟨w.heap.size, 0, none⟩)] (cau k) (by omega) (by omega) (fun _ _ => rfl) (cauchy_rule w1 w.heap.size k r (by omega) (by omega) cp)
      clear hok hok2
      have hmf := makes
      go_enter Try.func42, Try.ntmps42
      go_wp2_with fail
      rw [← hw1]
      refine W1.mono ?_
      rintro e w' ⟨rfl, hw'⟩
      obtain rfl := hw'.symm
      clear hw1
      go_wp2_with fail
      refine W2.mono ?_
      rintro e w' ⟨rfl, hw'⟩
      obtain rfl := hw'.symm
      go_wp2_with fail
      refine HMD.mono ?_
      rintro e w2 ⟨l, G, U, rfl, hm, hb⟩
      go_wp2_with fail
      go_ret2
      exact made_of hb1 hm hb

end Go.Proofs.Ythkikocacbbhkaa
