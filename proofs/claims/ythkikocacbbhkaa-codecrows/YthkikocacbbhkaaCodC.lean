/- A row of a code: out of the map, or made and put into it. -/
import Derived.Test.YthkikocacbbhkaaCodB
import Derived.Test.YthkikocacbbhkaaMatO
namespace Go.Proofs.Ythkikocacbbhkaa
open Go.RowKit
open Go.Maps (Keyed)

theorem elem_inv_nil {v : Value} {ps : List MemPlace} (h : elem v = some (.agg [], ps)) : v = .slice none 0 0 := by
  unfold elem at h
  split at h
  · simp [told] at h
  · rfl
  · cases h
/-- 'v, ok := m[k]' where the row is there. -/
theorem wpList_look_yes {w : World} {ops : Array Oper} {rest : List Oper} {o : Oper} {a : Act} {Q : Exit → Act → World → Prop} (hg : o.guard = none) (m x : Operand) (hop : o.op = Op.lookup 47 m x true) (b n : Nat) (D : DataW Unit)
    (hm : a.eval m = .map (some b)) (hown : w.ownsMap Try.prog 54 elem b n D) (key : Value) (kl : Lit) (hx : a.eval x = key) (hkey : keyOf Try.prog 54 key = some kl) (g q u : Nat) (hh : Maps.has D kl = true) (hat : D.atKey kl (.agg []) = told g q u)
    (hK : wpList Try.prog ops Q rest (a.put o.dst (.tuple #[.slice (some ⟨g, 0, none⟩) q u, .bool true])) w) : wpList Try.prog ops Q (o :: rest) a w := by
  refine wpList_lookup_own_ok w hg m x 47 hop 54 23 keyed Try.underlying47 elem (zero23 w) (.agg []) [] elem_nil b n D hm hown key kl hx hkey fun v ps hv => ?_
  rw [hat] at hv
  obtain rfl := elem_inv hv
  rw [hh]
  exact hK
theorem wpList_look_no {w : World} {ops : Array Oper} {rest : List Oper} {o : Oper} {a : Act} {Q : Exit → Act → World → Prop} (hg : o.guard = none) (m x : Operand) (hop : o.op = Op.lookup 47 m x true) (b n : Nat) (D : DataW Unit)
    (hm : a.eval m = .map (some b)) (hown : w.ownsMap Try.prog 54 elem b n D) (key : Value) (kl : Lit) (hx : a.eval x = key) (hkey : keyOf Try.prog 54 key = some kl) (hh : Maps.has D kl = false)
    (hK : wpList Try.prog ops Q rest (a.put o.dst (.tuple #[.slice none 0 0, .bool false])) w) : wpList Try.prog ops Q (o :: rest) a w := by
  refine wpList_lookup_own_ok w hg m x 47 hop 54 23 keyed Try.underlying47 elem (zero23 w) (.agg []) [] elem_nil b n D hm hown key kl hx hkey fun v ps hv => ?_
  rw [Maps.atKey_of_not_has hh] at hv
  obtain rfl := elem_inv_nil hv
  rw [hh]
  exact hK
/-- 'm[k]' where the row is there. -/
theorem wpList_look_at {w : World} {ops : Array Oper} {rest : List Oper} {o : Oper} {a : Act} {Q : Exit → Act → World → Prop} (hg : o.guard = none) (m x : Operand) (hop : o.op = Op.lookup 47 m x false) (b n : Nat) (D : DataW Unit)
    (hm : a.eval m = .map (some b)) (hown : w.ownsMap Try.prog 54 elem b n D) (key : Value) (kl : Lit) (hx : a.eval x = key) (hkey : keyOf Try.prog 54 key = some kl) (g q u : Nat) (hat : D.atKey kl (.agg []) = told g q u)
    (hK : wpList Try.prog ops Q rest (a.put o.dst (.slice (some ⟨g, 0, none⟩) q u)) w) : wpList Try.prog ops Q (o :: rest) a w := by
  refine wpList_plain hg fun K' hK' => ?_
  obtain ⟨v, ps, hrun, hv⟩ := hown.lookup keyed Try.underlying47 (zero23 w) elem_nil hkey
  rw [hat] at hv
  obtain rfl := elem_inv hv
  unfold Oper.wp
  simp [execOp, hop, hm, hx, hrun, Result.andThen]
  exact hK' _ _ hK

theorem gen_one {k i j : Nat} (hi : i < k) : gen k i j = one i j := if_pos hi
theorem gen_cau (k i j : Nat) : gen k (k + i) j = cau k i j := by
  unfold gen
  rw [if_neg (by omega), Nat.add_sub_cancel_left]

def RowOf (w : World) (b B k r n c : Nat) (e : Ending) (w' : World) : Prop :=
  ∃ g u, e = .returned (.slice (some ⟨g, 0, none⟩) k u) ∧ B ≤ g ∧ Own w' g k u (gen k c) ∧ Kept w' b B k r (n + 12) 0 0 ∧ Keeps b (b + 1) w w'

set_option maxHeartbeats 1000000 in
set_option maxRecDepth 100000 in
theorem row_any (w : World) (b B k r n c : Nat) (hk1 : 1 ≤ k) (hk : k ≤ 12) (hr : r ≤ 4) (hc : c < k + r) (hn : n ≤ 10000) (hB : B ≤ w.heap.size) (hkept : Kept w b B k r n 0 0) :
    Calls Try.prog 29 #[.map (some b), key k r c] w (RowOf w b B k r n c) := by
  obtain ⟨w1, hw1⟩ : ∃ w1, w1 = w.alloc (.cells #[.int .i64 (k : Int), .int .i64 (r : Int), .int .i64 (c : Int)] 54) := ⟨_, rfl⟩
  have b1 : Below w.heap.size w w1 := by rw [hw1]; exact (Below.refl _ _).alloc (Nat.le_refl _) _
  have d0 : w1.cell? ⟨w.heap.size, 0, none⟩ = some (.int .i64 (k : Int)) := by rw [hw1, cell_of_row _ _ _ _ _ _ (heap_alloc_new w _)]; rfl
  have d1 : w1.cell? ⟨w.heap.size, 1, none⟩ = some (.int .i64 (r : Int)) := by rw [hw1, cell_of_row _ _ _ _ _ _ (heap_alloc_new w _)]; rfl
  have d2 : w1.cell? ⟨w.heap.size, 2, none⟩ = some (.int .i64 (c : Int)) := by rw [hw1, cell_of_row _ _ _ _ _ _ (heap_alloc_new w _)]; rfl
  have hbw := hkept.lt
  have HK1 : Hid (Kept w1 b B k r n 0 0) := hkept.below b1
  have hkey := keyOf_key k r c (by omega) (by omega) (by omega)
  obtain ⟨D, hown, hgood, _⟩ := HK1.out
  have HOWN : Hid (w1.ownsMap Try.prog 54 elem b n D) := hown
  clear hown hkept
  unfold key at hkey ⊢
  cases hh : Maps.has D (keyLit k r c)
  · have HHH : Hid (Maps.has D (keyLit k r c) = false) := hh
    clear hh hgood
    by_cases hck : c < k
    · go_enter Try.func29, Try.ntmps29
      go_wp2_with (at_lookup; refine wpList_look_no rfl _ _ rfl b n D rfl (by rw [← hw1]; exact HOWN.out) _ _ rfl hkey HHH.out ?_)
      rw [← hw1]
      clear hw1
      refine (one_mat w1 k hk1 (by omega)).mono ?_
      rintro e w2 ⟨l, G, U, rfl, hm, b2⟩
      have f0 := held d0 b2
      have f1 := held d1 b2
      have f2 := held d2 b2
      have HKC : Hid (Calls Try.prog 41 #[.map (some b), .agg #[.int .i64 (k : Int), .int .i64 (r : Int), .int .i64 0], .slice (some ⟨l, 0, none⟩) k k] w2 fun e w' => e = .returned (.tuple #[]) ∧ Kept w' b B k r (n + k) 0 (0 + k) ∧ Keeps b (b + 1) w2 w') :=
        keep_any w2 b B k r n 0 l k k w2.heap.size G U one hk hr (by omega) (by omega) (HK1.out.below b2) (hm.lower (Nat.le_trans hB b1.size)) (fun i j hi _ => by rw [Nat.zero_add]; exact (gen_one hi).symm)
      have b12 := below_step b1 b2 b1.size
      have hbs : w.heap.size < w1.heap.size := World.block_lt_of_cell? w1 _ d0
      clear hm d0 d1 d2 HOWN HHH b2
      go_wp2_with fail
      refine HKC.out.mono ?_
      rintro e w3 ⟨rfl, hk3, hk4⟩
      obtain ⟨D3, hown, hgood, hall⟩ := hk3
      have hh := hall c (Nat.zero_le _) (by omega)
      obtain ⟨g, u, e1, e2, e3⟩ := hgood c hc hh
      have HAT : Hid (D3.atKey (keyLit k r c) (.agg []) = told g k u) := e1
      have HOWN : Hid (w3.ownsMap Try.prog 54 elem b (n + k) D3) := hown
      have HK3 : Hid (Kept w3 b B k r (n + 12) 0 0) := Kept.mono (n := n + k) ⟨D3, hown, hgood, fun x h3 h4 => absurd h4 (by omega)⟩ (by omega)
      have g0 := hk4.cell f0 (.inr (by show b + 1 ≤ w.heap.size; omega))
      have g1 := hk4.cell f1 (.inr (by show b + 1 ≤ w.heap.size; omega))
      have g2 := hk4.cell f2 (.inr (by show b + 1 ≤ w.heap.size; omega))
      clear hgood hall hh e1 hown f0 f1 f2 HKC
      go_wp2_with (at_lookup; refine wpList_look_at rfl _ _ rfl b (n + k) D3 rfl HOWN.out _ _ rfl hkey g k u HAT.out ?_)
      go_ret
      exact ⟨g, u, rfl, e2, e3, HK3.out, (Keeps.of_below b12).trans hk4⟩
    · have hr1 : 1 ≤ r := by omega
      have CY := cauchy_any w1 (k : Int) (r : Int)
      rw [show okN (k : Int) 12 = true from decide_eq_true (by omega), show okN (r : Int) 4 = true from decide_eq_true (by omega), Int.toNat_natCast, Int.toNat_natCast] at CY
      go_enter Try.func29, Try.ntmps29
      go_wp2_with (at_lookup; refine wpList_look_no rfl _ _ rfl b n D rfl (by rw [← hw1]; exact HOWN.out) _ _ rfl hkey HHH.out ?_)
      rw [← hw1]
      clear hw1
      refine CY.mono ?_
      intro e w2 hh
      obtain ⟨l, cl, G, U, rfl, hm, b2⟩ := mat_of hh (by omega)
      have f0 := held d0 b2
      have f1 := held d1 b2
      have f2 := held d2 b2
      have HKC : Hid (Calls Try.prog 41 #[.map (some b), .agg #[.int .i64 (k : Int), .int .i64 (r : Int), .int .i64 (k : Int)], .slice (some ⟨l, 0, none⟩) r cl] w2 fun e w' => e = .returned (.tuple #[]) ∧ Kept w' b B k r (n + r) k (k + r) ∧ Keeps b (b + 1) w2 w') :=
        keep_any w2 b B k r n k l cl r w2.heap.size G U (cau k) hk hr (by omega) (by omega) ((HK1.out.below b2).any k) (hm.lower (Nat.le_trans hB b1.size)) (fun i j _ _ => (gen_cau k i j).symm)
      have b12 := below_step b1 b2 b1.size
      have hbs : w.heap.size < w1.heap.size := World.block_lt_of_cell? w1 _ d0
      clear hm d0 d1 d2 HOWN HHH b2 hh CY
      go_wp2_with fail
      refine HKC.out.mono ?_
      rintro e w3 ⟨rfl, hk3, hk4⟩
      obtain ⟨D3, hown, hgood, hall⟩ := hk3
      have hh := hall c (by omega) hc
      obtain ⟨g, u, e1, e2, e3⟩ := hgood c hc hh
      have HAT : Hid (D3.atKey (keyLit k r c) (.agg []) = told g k u) := e1
      have HOWN : Hid (w3.ownsMap Try.prog 54 elem b (n + r) D3) := hown
      have HK3 : Hid (Kept w3 b B k r (n + 12) 0 0) := Kept.mono (n := n + r) ⟨D3, hown, hgood, fun x h3 h4 => absurd h4 (by omega)⟩ (by omega)
      have g0 := hk4.cell f0 (.inr (by show b + 1 ≤ w.heap.size; omega))
      have g1 := hk4.cell f1 (.inr (by show b + 1 ≤ w.heap.size; omega))
      have g2 := hk4.cell f2 (.inr (by show b + 1 ≤ w.heap.size; omega))
      clear hgood hall hh e1 hown f0 f1 f2 HKC
      go_wp2_with (at_lookup; refine wpList_look_at rfl _ _ rfl b (n + r) D3 rfl HOWN.out _ _ rfl hkey g k u HAT.out ?_)
      go_ret
      exact ⟨g, u, rfl, e2, e3, HK3.out, (Keeps.of_below b12).trans hk4⟩
  · obtain ⟨g, u, e1, e2, e3⟩ := hgood c hc hh
    have HAT : Hid (D.atKey (keyLit k r c) (.agg []) = told g k u) := e1
    have HHH : Hid (Maps.has D (keyLit k r c) = true) := hh
    clear hh hgood e1
    go_enter Try.func29, Try.ntmps29
    go_wp2_with (at_lookup; refine wpList_look_yes rfl _ _ rfl b n D rfl (by rw [← hw1]; exact HOWN.out) _ _ rfl hkey g k u HHH.out HAT.out ?_)
    rw [← hw1]
    clear hw1
    go_ret
    exact ⟨g, u, rfl, e2, e3, HK1.out.mono (by omega), Keeps.of_below b1⟩
end Go.Proofs.Ythkikocacbbhkaa
