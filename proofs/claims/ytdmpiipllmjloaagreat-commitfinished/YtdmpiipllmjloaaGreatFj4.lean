/- SlC: what is needed of them. -/
import Derived.Laws.BitsAllLaws
import Derived.WalkMore
import Derived.Test.YtdmpiipllmjloaaGreatFj3
namespace Go.Proofs.YtdmpiipllmjloaaGreat
open Go.RowKit
/-- All blocks but those of X are as they were. -/
structure Only (X : Nat → Prop) (w w' : World) : Prop where
  os : w'.os = w.os
  tape : w'.tape = w.tape
  output : w'.output = w.output
  size : w.heap.size ≤ w'.heap.size
  block : ∀ b, b < w.heap.size → ¬ X b → w'.heap[b]? = w.heap[b]?
theorem Only.refl (X : Nat → Prop) (w : World) : Only X w w := ⟨rfl, rfl, rfl, Nat.le_refl _, fun _ _ _ => rfl⟩
theorem Only.trans {X : Nat → Prop} {a b c : World} (h : Only X a b) (k : Only X b c) : Only X a c :=
  ⟨k.os.trans h.os, k.tape.trans h.tape, k.output.trans h.output, Nat.le_trans h.size k.size, fun i hi hx => (k.block i (Nat.lt_of_lt_of_le hi h.size) hx).trans (h.block i hi hx)⟩
theorem Only.of_below {X : Nat → Prop} {a b : World} (h : Below a.heap.size a b) : Only X a b := ⟨h.os, h.tape, h.output, h.size, fun i hi _ => h.block i hi⟩
theorem Only.below {X : Nat → Prop} {B : Nat} {a b : World} (h : Only X a b) (k : ∀ i, X i → B ≤ i) (hB : B ≤ a.heap.size) : Below B a b := ⟨h.os, h.tape, h.output, h.size, fun i hi => h.block i (by omega) fun hx => by have := k i hx; omega⟩
theorem Only.setCell {X : Nat → Prop} {a b : World} (h : Only X a b) {p : Addr} (hp : X p.block) (v : Value) : Only X a (b.setCell p v) :=
  h.trans ⟨rfl, rfl, rfl, by simp [World.setCell], fun i _ hx => Below.heap_setCell _ _ _ _ (fun e => hx (e ▸ hp))⟩
theorem Only.alloc {X : Nat → Prop} {a b : World} (h : Only X a b) (o : Obj) : Only X a (b.alloc o) := h.trans (.of_below (below_alloc _ _))
theorem Only.drew {X : Nat → Prop} {a b : World} (h : Only X a b) : Only X a b.drew := h.trans (.of_below (below_drew _ _))
theorem Only.then {X : Nat → Prop} {a b c : World} (h : Only X a b) (k : Below b.heap.size b c) : Only X a c := h.trans (.of_below k)
theorem Only.cell {X : Nat → Prop} {a b : World} (h : Only X a b) {p : Addr} {v : Value} (hc : a.cell? p = some v) (hp : ¬ X p.block) : b.cell? p = some v :=
  (World.cell?_of_block (h.block p.block (World.block_lt_of_cell? a _ hc) hp)).trans hc
theorem Only.step {X Y : Nat → Prop} {a b c : World} (h : Only X a b) (k : Only Y b c) (hx : ∀ i, i < a.heap.size → Y i → X i) : Only X a c :=
  ⟨k.os.trans h.os, k.tape.trans h.tape, k.output.trans h.output, Nat.le_trans h.size k.size, fun i hi hn => (k.block i (Nat.lt_of_lt_of_le hi h.size) fun hy => hn (hx i hi hy)).trans (h.block i hi hn)⟩
/-- The bytes o + k - t to o + k - 1 of what m is taken apart into. -/
def tk (G : Nat → UInt8) (o k m t : Nat) : Nat → UInt8 := fun j => if o + (k - t) ≤ j ∧ j < o + k then dg m (o + k - 1 - j) else G j
theorem tk_zero (G : Nat → UInt8) (o k m : Nat) : tk G o k m 0 = G := by
  funext j; unfold tk; rw [if_neg (by omega)]
theorem tk_succ (G : Nat → UInt8) {o k m t : Nat} (ht : t < k) : put (o + (k - 1 - t)) (dg m t) (tk G o k m t) = tk G o k m (t + 1) := by
  funext j
  unfold put tk
  by_cases e : j = o + (k - 1 - t)
  · rw [if_pos e, if_pos (by omega), show o + k - 1 - j = t by omega]
  · rw [if_neg e]
    by_cases h : o + (k - t) ≤ j ∧ j < o + k
    · rw [if_pos h, if_pos (by omega)]
    · rw [if_neg h, if_neg (by omega)]
theorem tk_all (G : Nat → UInt8) (o k m : Nat) : tk G o k m k = upR G o k (fun i => dg m (k - 1 - i)) := by
  funext j
  unfold tk upR
  by_cases h : o ≤ j ∧ j < o + k
  · rw [if_pos (by omega), if_pos h, show o + k - 1 - j = k - 1 - (j - o) by omega]
  · rw [if_neg (by omega), if_neg h]
theorem pow_step (m t : Nat) : m / 256 ^ t / 256 = m / 256 ^ (t + 1) := by rw [Nat.div_div_eq_div_mul, Nat.pow_succ]
set_option maxHeartbeats 2000000 in
set_option maxRecDepth 100000 in
theorem takeApart_any (w : World) (g n o k cp m : Nat) (G : Nat → UInt8) (hg : Bk w g n G) (hk : o + k ≤ n) (h0 : 0 < k) (hn : n ≤ 1000) :
    Calls Tryz.prog 141 #[.slice (some ⟨g, o, none⟩) k cp, .int .i64 (m : Int)] w fun e w' => e = .returned (.tuple #[]) ∧ Bk w' g n (upR G o k (fun i => dg m (k - 1 - i))) ∧ Only (fun b => b = g) w w' := by
  have HT : Hid (∀ t, t < k → put (o + (k - 1 - t)) (dg m t) (tk G o k m t) = tk G o k m (t + 1)) := fun t ht => tk_succ G ht
  have HD : Hid (∀ t, (m / 256 ^ t / 256 = m / 256 ^ (t + 1)) ∧ (m / 256 ^ t ≤ m)) := fun t => ⟨pow_step m t, Nat.div_le_self _ _⟩
  have HV : Hid (∀ t, (((dg m t).toNat : Nat) : Int) = ((m / 256 ^ t : Nat) : Int) % 256) := fun t => by rw [dg_toNat]; omega
  have HG : Hid (Bk w g n (tk G o k m 0)) := by show Bk _ _ _ _; rw [tk_zero]; exact hg
  have HA : Hid (tk G o k m k = upR G o k (fun i => dg m (k - 1 - i))) := tk_all G o k m
  have HM : Hid (m / 256 ^ 0 = m) := by show _ = _; rw [Nat.pow_zero, Nat.div_one]
  clear hg
  go_enter Tryz.func141, Tryz.ntmps141
  go_wp2
  go_loopw [1, 4] (fun y x wr => ∃ t : Nat, t ≤ k ∧ (∃ z : Int, y = .int .i64 z ∧ Hid (z = ((m / 256 ^ t : Nat) : Int))) ∧ (∃ i : Int, x = .int .i64 i ∧ i = (k : Int) - 1 - (t : Int)) ∧ Hid (Bk wr g n (tk G o k m t)) ∧ Hid (Only (fun b => b = g) w wr)) (fun _ x _ => (intOf x + 1).toNat)
  case atStart => exact ⟨0, Nat.zero_le _, ⟨_, rfl, by show _ = _; rw [HM.out]⟩, ⟨_, rfl, by go_num⟩, HG, Only.refl _ _⟩
  case round =>
    obtain ⟨t, ht, ⟨z, rfl, hz⟩, ⟨i, rfl, hi⟩, hB, hW⟩ := hrel
    by_cases hlt : t < k
    · have e1 := HT.out t hlt
      have e2 := HD.out t
      have e3 := HV.out t
      obtain ⟨mt, hmt⟩ : ∃ mt : Nat, m / 256 ^ t = mt := ⟨_, rfl⟩
      rw [hmt] at e2 e3
      have hz' : z = (mt : Int) := by rw [hz.out, hmt]
      clear hz
      subst hz'
      have ck := hB.out.cell (i := o + (k - 1 - t)) (by omega)
      have fk := hB.out.free (o + (k - 1 - t))
      have hst := hB.out.set (o + (k - 1 - t)) (dg m t)
      rw [e1, e3] at hst
      have HST : Hid (Bk (wr.setCell ⟨g, o + (k - 1 - t), none⟩ (.int .u8 ((mt : Int) % 256))) g n (tk G o k m (t + 1))) := hst
      obtain ⟨it, hit⟩ : ∃ it : Nat, it = k - 1 - t := ⟨_, rfl⟩
      have hi' : i = (it : Int) := by omega
      rw [← hit] at ck fk HST
      have HZ : Hid (((mt / 256 : Nat) : Int) = ((m / 256 ^ (t + 1) : Nat) : Int)) := by show _ = _; rw [e2.1]
      have hmt2 := e2.2
      subst hi'
      clear hst e1 e2 e3 hmt
      have i1 : (0 : Int) ≤ (it : Int) := by omega
      have i2 : (it : Int) < (k : Int) := by omega
      have i3 : it < k := by omega
      have HIT : Hid (it = k - 1 - t) := hit
      clear hit hi
      go_wp2
      go_roundw
      case rel => exact ⟨t + 1, by omega, ⟨_, rfl, by show _ = _; rw [← HZ.out]; omega⟩, ⟨_, rfl, by have := HIT.out; omega⟩, HST, hW.out.setCell rfl _⟩
      case measure => simp [intOf]
    · go_wp2
      refine bodyPost_end (results_none rfl _ _ _) rfl ⟨rfl, ?_, hW.out⟩
      obtain rfl : t = k := by omega
      rw [← HA.out]; exact hB.out
theorem i64_or_nat (a b : Nat) (ha : a < 4611686018427387904) (hb : b < 4611686018427387904) : bits .or .i64 (a : Int) (b : Int) = ((a ||| b : Nat) : Int) := by
  have hx : a ||| b < 2 ^ 62 := Nat.or_lt_two_pow (by omega) (by omega)
  show IntKind.i64.wrap ((BitVec.ofInt 64 (a : Int) ||| BitVec.ofInt 64 (b : Int)).toNat : Int) = _
  rw [BitVec.toNat_or, ofInt_u64 a (by omega), ofInt_u64 b (by omega)]
  rw [IntKind.wrap_i64]
  omega
theorem or_mul (a b : Nat) (h : a < 256) : (b * 256) ||| a = b * 256 + a := by
  rw [show b * 256 = b <<< 8 from by rw [Nat.shiftLeft_eq], ← Nat.shiftLeft_add_eq_or_of_lt (i := 8) (by omega)]
set_option maxHeartbeats 2000000 in
set_option maxRecDepth 100000 in
theorem putTogether_any (w : World) (g o k cp : Nat) (F : Nat → UInt8) (hr : ∀ j, j < k → w.cell? ⟨g, o + j, none⟩ = some (.int .u8 (((F j).toNat : Nat) : Int))) (hk : k ≤ 4) :
    Calls Tryz.prog 85 #[.slice (some ⟨g, o, none⟩) k cp] w fun e w' => e = .returned (.int .i64 ((nm F 0 k : Nat) : Int)) ∧ w' = w := by
  have HR : Hid (∀ j, j < k → w.cell? ⟨g, o + j, none⟩ = some (.int .u8 (((F j).toNat : Nat) : Int))) := hr
  have HB : Hid (∀ j, j ≤ k → nm F 0 j < 4294967296) := fun j hj => Nat.lt_of_lt_of_le (nm_lt F 0 j) (by
    rcases (show j = 0 ∨ j = 1 ∨ j = 2 ∨ j = 3 ∨ j = 4 by omega) with rfl | rfl | rfl | rfl | rfl <;> decide)
  have HS : Hid (∀ j, nm F 0 (j + 1) = nm F 0 j * 256 + (F j).toNat) := fun j => by show _ = _; rw [nm, Nat.zero_add]
  have HL : Hid (∀ j, (F j).toNat < 256) := fun j => (F j).toNat_lt
  clear hr
  go_enter Tryz.func85, Tryz.ntmps85
  go_wp2
  go_loop [3, 8] (fun y x => ∃ i : Nat, i ≤ k ∧ x = .int .i64 (i : Int) ∧ ∃ z : Nat, y = .int .i64 (z : Int) ∧ Hid (z = nm F 0 i)) (fun _ x => k - (intOf x).toNat)
  case atStart => exact ⟨0, Nat.zero_le _, rfl, 0, rfl, rfl⟩
  case round =>
    obtain ⟨i, hi, rfl, z, rfl, hz⟩ := hrel
    by_cases hlt : i < k
    · have ck := HR.out i hlt
      have hb := HB.out i (by omega)
      have hs := HS.out i
      have hl := HL.out i
      rw [← hz.out] at hb hs
      obtain ⟨u, hu⟩ : ∃ u : Nat, (F i).toNat = u := ⟨_, rfl⟩
      rw [hu] at ck hs hl
      have HN : Hid (nm F 0 (i + 1) = z * 256 + u) := hs
      have hor : bits .or .i64 ((z : Int) * 256) (u : Int) = ((z * 256 + u : Nat) : Int) := by
        rw [show (z : Int) * 256 = ((z * 256 : Nat) : Int) by omega, i64_or_nat _ _ (by omega) (by omega), or_mul _ _ hl]
      have i1 : (0 : Int) ≤ (i : Int) := by omega
      have i2 : (i : Int) < (k : Int) := by omega
      clear hs hu hz
      go_wp2
      go_round
      case rel => exact ⟨i + 1, by omega, by go_num, z * 256 + u, by go_num, HN.out.symm⟩
      case measure => simp [intOf]; omega
    · obtain rfl : i = k := by omega
      go_wp2
      go_ret
      exact ⟨ret_int (by rw [hz.out]), rfl⟩
/-- The value of a slot's parts: n bytes of block g from o on, v of them the vector's, d the data's. -/
def prt (g o v d : Nat) : Array Value := #[.slice (some ⟨g, o, none⟩) 2 2, .slice (some ⟨g, o + 2, none⟩) 1 1, .slice (some ⟨g, o + 3, none⟩) 1 1, .slice (some ⟨g, o + 4, none⟩) 4 4, .slice (some ⟨g, o + 8, none⟩) 4 4, .slice (some ⟨g, o + 12, none⟩) v v, .slice (some ⟨g, o + 12 + v, none⟩) d d]
set_option maxHeartbeats 2000000 in
set_option maxRecDepth 100000 in
theorem version_any (w : World) (g o N d i : Nat) (hi : i < N) (hN : N ≤ 16) :
    Calls Tryz.prog 86 #[.agg (prt g o (4 * N) d), .int .i64 (i : Int)] w fun e w' => e = .returned (.slice (some ⟨g, o + 12 + 4 * i, none⟩) 4 4) ∧ Below w.heap.size w w' := by
  unfold prt
  have h1 : (4 * (i : Int)) < ((4 * N : Nat) : Int) := by omega
  have h2 : (i : Int) * 4 + 4 ≤ ((4 * N : Nat) : Int) := by omega
  go_enter Tryz.func86, Tryz.ntmps86
  go_wp2
  go_ret
  exact ⟨by rw [show (i + 1) * 4 - i * 4 = 4 by omega, show i * 4 = 4 * i by omega]; rfl, below_alloc _ _⟩
set_option maxHeartbeats 2000000 in
set_option maxRecDepth 100000 in
theorem cut_any (w : World) (k r c q : Int) (g o n cp N : Nat) (hn : n = 12 + 4 * N + c.toNat) (hcp : n ≤ cp) (hN : 1 ≤ N) (hN2 : N ≤ 16) (hc : 8 ≤ c) (hc2 : c ≤ 64) :
    Calls Tryz.prog 48 #[.agg #[.int .i64 k, .int .i64 r, .int .i64 c, .int .i64 q], .slice (some ⟨g, o, none⟩) n cp] w fun e w' => e = .returned (.agg (prt g o (4 * N) c.toNat)) ∧ Below w.heap.size w w' := by
  obtain ⟨d, rfl⟩ : ∃ d : Nat, c = (d : Int) := ⟨c.toNat, by omega⟩
  rw [Int.toNat_natCast] at *
  unfold prt
  obtain ⟨m, hm⟩ : ∃ m, m = 12 + 4 * N := ⟨_, rfl⟩
  have hv : 4 * N = m - 12 := by omega
  have h1 : ((n : Int) - (d : Int)) = (m : Int) := by omega
  rw [hv]
  have m1 : 16 ≤ m := by omega
  have m2 : m ≤ 76 := by omega
  have m3 : n = m + d := by omega
  clear hm hv hn hN hN2
  subst m3
  obtain ⟨w0, hw0⟩ : ∃ w0, w0 = w.alloc (.cells #[.int .i64 k, .int .i64 r, .int .i64 (d : Int), .int .i64 q] 23) := ⟨_, rfl⟩
  obtain ⟨w1, hw1⟩ : ∃ w1, w1 = w0.alloc (.cells #[.slice none 0 0, .slice none 0 0, .slice none 0 0, .slice none 0 0, .slice none 0 0, .slice none 0 0, .slice none 0 0] 108) := ⟨_, rfl⟩
  have b0 : Below w.heap.size w w0 := by rw [hw0]; exact below_alloc _ _
  have b1 : Below w0.heap.size w0 w1 := by rw [hw1]; exact below_alloc _ _
  have z0 : w0.heap.size = w.heap.size + 1 := by rw [hw0]; simp
  have x0 := blk_held hw1 (Below.refl _ _) 0 rfl
  have x1 := blk_held hw1 (Below.refl _ _) 1 rfl
  have x2 := blk_held hw1 (Below.refl _ _) 2 rfl
  have x3 := blk_held hw1 (Below.refl _ _) 3 rfl
  have x4 := blk_held hw1 (Below.refl _ _) 4 rfl
  have x5 := blk_held hw1 (Below.refl _ _) 5 rfl
  have x6 := blk_held hw1 (Below.refl _ _) 6 rfl
  have xf := blk_free hw1 (Below.refl _ _)
  rw [z0] at x0 x1 x2 x3 x4 x5 x6 xf
  have HBB : Hid (Below w.heap.size w w1) := below_then b0 b1
  have n1 : ¬ m = 12 := by omega
  have n2 : ((m : Int) + (d : Int)).toNat = m + d := by omega
  have n3 : ¬ m + d = m := by omega
  have n4 : m + d - m = d := by omega
  go_enter Tryz.func48, Tryz.ntmps48
  go_wp2_with fail
  rw [← hw0, ← hw1]
  clear hw0 hw1 z0 b0 b1
  have c2 : (2 : Int) ≤ (cp : Int) := by omega
  have c3 : (3 : Int) ≤ (cp : Int) := by omega
  have c4 : (4 : Int) ≤ (cp : Int) := by omega
  have c8 : (8 : Int) ≤ (cp : Int) := by omega
  have c12 : (12 : Int) ≤ (cp : Int) := by omega
  have cm : (m : Int) ≤ (cp : Int) := by omega
  have cd : (m : Int) + (d : Int) ≤ (cp : Int) := by omega
  have c5 : (12 : Int) ≤ (m : Int) := by omega
  have c6 : (0 : Int) ≤ (m : Int) := by omega
  have c7 : (0 : Int) ≤ (m : Int) + (d : Int) := by omega
  have c9 : (m : Int) ≤ (m : Int) + (d : Int) := by omega
  refine wp_region_still_tail 22 (by kernel_rfl) (by kernel_rfl) ?_
  simp only [List.take_succ_cons, List.take_zero, List.drop_succ_cons, List.drop_zero]
  repeat (refine wpStill_step (fun K hK => ?_); go_simp; (try simp only [c2, c3, c4, c8, c12, cm, cd, c5, c6, c7, c9, and_self, if_true]); refine hK _ ?_; clear hK K)
  refine wpStill_nil ?_
  go_wp2
  refine bodyPost_ret (v := .agg #[.slice (some ⟨g, o, none⟩) 2 2, .slice (some ⟨g, o + 2, none⟩) 1 1, .slice (some ⟨g, o + 3, none⟩) 1 1, .slice (some ⟨g, o + 4, none⟩) 4 4, .slice (some ⟨g, o + 8, none⟩) 4 4, .slice (some ⟨g, o + 12, none⟩) (m - 12) (m - 12), .slice (some ⟨g, o + m, none⟩) d d]) (by simp [results, Tryz.results48, go_sem, x0, x1, x2, x3, x4, x5, x6]) rfl ⟨?_, ?_⟩
  · rw [show o + 12 + (m - 12) = o + m by omega]
  · exact below_step (((((((HBB.out.setCell (Nat.le_succ _) _).setCell (Nat.le_succ _) _).setCell (Nat.le_succ _) _).setCell (Nat.le_succ _) _).setCell (Nat.le_succ _) _).setCell (Nat.le_succ _) _).setCell (Nat.le_succ _) _) (below_drew _ _) (by simp [World.setCell]; exact HBB.out.size)
end Go.Proofs.YtdmpiipllmjloaaGreat
