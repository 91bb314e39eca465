/- What the document's own answers come to: whether a matrix may be, the unit matrix, the parity's, turned, the product. -/
import Derived.Test.YthkikocacbbhkaaMatP
namespace Go.Proofs.Ythkikocacbbhkaa
open Go.RowKit

theorem Mat.upper {w : World} {B T T' l cl rows cols : Nat} {G U : Nat → Nat} {H : M} (h : Mat w B T l cl rows cols G U H) (hb : T ≤ T') : Mat w B T' l cl rows cols G U H :=
  ⟨h.lst, h.room, h.row, h.lo, Nat.lt_of_lt_of_le h.hi hb, h.los, fun i hi => Nat.lt_of_lt_of_le (h.his i hi) hb, h.apart⟩
/-- One byte is written. -/
theorem Mat.store {w : World} {B T l cl rows cols : Nat} {G U : Nat → Nat} {H : M} {k j : Nat} (h : Mat w B T l cl rows cols G U H) (hk : k < rows) (x : K) :
    Mat (w.setCell ⟨G k, j, none⟩ (.int .u8 (x.n : Int))) B T l cl rows cols G U (fun i b => if i = k ∧ b = j then x else H i b) := by
  refine (h.put hk ((h.row k hk).set j x) ((Keeps.refl _ _ w).setCell (Nat.le_refl _) (Nat.lt_succ_self _) j _)).congr fun i b _ _ => ?_
  by_cases e : i = k
  · subst e; simp
  · simp [e]
theorem Mat.keep {w : World} {B T l cl rows cols : Nat} {G U : Nat → Nat} {H : M} {k : Nat} (h : Mat w B T l cl rows cols G U H) (hk : k < rows) {w0 : World} (hb : Below B w0 w) (hB : B ≤ w.heap.size) (j : Nat) (v : Value) : Below B w0 (w.setCell ⟨G k, j, none⟩ v) :=
  hb.trans (((Keeps.refl B T w).setCell (h.los k hk) (h.his k hk) j v).below hB (Nat.le_refl _))
theorem blank_mat (w : World) (rows cols : Nat) (hr : rows ≤ 1000) (hc : cols ≤ 1000) (h1 : 1 ≤ rows) :
    Calls Try.prog 43 #[.int .i64 (rows : Int), .int .i64 (cols : Int)] w fun e w' => ∃ l cap G, e = .returned (.slice (some ⟨l, 0, none⟩) rows cap) ∧ Mat w' w.heap.size w'.heap.size l cap rows cols G (fun _ => cols) (fun _ _ => 0) ∧ Below w.heap.size w w' := by
  refine (blank_any w rows cols hr hc).mono ?_
  rintro e w' ⟨ao, cap, rfl, ⟨G, h⟩, hb⟩
  rcases h.lst.2 with ⟨_, h2⟩ | ⟨g, cap', cur, e, _⟩
  · omega
  · cases e
    exact ⟨g, cap, G, rfl, rows_mat h, hb⟩
theorem ref_made {w w' : World} {T l n cap cols : Nat} {G U : Nat → Nat} {H : M} {err : Int} (hm : Mat w' w.heap.size T l cap n cols G U H) (hT : T ≤ w'.heap.size) (hb : Below w.heap.size w w') :
    Made w true err n cols H (.returned (.tuple #[.slice (some ⟨l, 0, none⟩) n cap, .int .i64 0])) w' := ⟨_, _, rfl, .inr ⟨l, G, U, rfl, hm.upper hT⟩, hb⟩

set_option maxHeartbeats 1000000 in
set_option maxRecDepth 100000 in
theorem rcheck_any (w : World) (lo : Option Addr) (ll cl : Nat) (A : Nat → Option Addr) (C L : Nat → Nat) (H : M) (hl : Lst w lo ll A C L H) :
    Calls Try.prog 45 #[.slice lo ll cl] w fun e w' => e = .returned (.int .i64 (errB (okM ll L) 30)) ∧ ∃ q, w' = w.drewN q := by
  by_cases h1 : 1 ≤ ll ∧ ll ≤ 32
  · obtain ⟨b, off, rfl, hcl⟩ := hl.at_ (by omega)
    have HCL : Hid (∀ i, i < ll → w.cell? ⟨b, off + i, none⟩ = some (.slice (A i) (L i) (C i))) := hcl
    have c0 := hcl 0 (by omega)
    rw [Nat.add_zero] at c0
    have i0 : 0 < ll := by omega
    have i1 : (0 : Int) < (ll : Int) := by omega
    obtain ⟨h1a, h1b⟩ := h1
    obtain ⟨l0, hl0⟩ : ∃ l0, l0 = L 0 := ⟨_, rfl⟩
    rw [← hl0] at c0
    by_cases h2 : 1 ≤ l0 ∧ l0 ≤ 32
    · by_cases h3 : ∀ i, i < ll → L i = l0
      · rw [show errB (okM ll L) 30 = 0 by rw [show okM ll L = true from decide_eq_true ⟨h1a, h1b, by rw [← hl0]; exact h2.1, by rw [← hl0]; exact h2.2, by rw [← hl0]; exact h3⟩]; rfl]
        have H3 : Hid (∀ i, i < ll → L i = l0) := h3
        obtain ⟨h2a, h2b⟩ := h2
        clear hcl hl h3 hl0
        have hq : ((l0 : Int) != (l0 : Int)) = false := by simp
        go_enter Try.func45, Try.ntmps45
        go_wp2
        go_loopw [3] (fun i wr => ∃ k : Nat, k ≤ ll ∧ i = .int .i64 k ∧ Hid (∃ q, wr = w.drewN q)) (fun i _ => ll - (intOf i).toNat)
        case atStart => exact ⟨0, Nat.zero_le _, rfl, 0, rfl⟩
        case round =>
          obtain ⟨k, hk, rfl, hdr⟩ := hrel
          have d0 : wr.cell? ⟨b, off, none⟩ = some (.slice (A 0) l0 (C 0)) := held c0 (drewN_below hdr.out)
          by_cases hlt : k < ll
          · have ck := held (HCL.out k hlt) (drewN_below hdr.out)
            rw [H3.out k hlt] at ck
            have i2 : (0 : Int) ≤ (k : Int) := by omega
            have i3 : (k : Int) < (ll : Int) := by omega
            go_wp2
            go_quiet (fail)
            go_wp2
            go_roundw
            case rel =>
              obtain ⟨q, hq⟩ := hdr.out
              exact ⟨k + 1, by omega, by go_num, q + nq, by rw [hq]; simp [World.drewN, Nat.add_assoc]⟩
            case measure => simp [intOf]; omega
          · go_wp2
            go_ret
            exact ⟨rfl, hdr.out⟩
      · rw [show errB (okM ll L) 30 = 30 by rw [show okM ll L = false from decide_eq_false fun g => h3 (by rw [hl0]; exact g.2.2.2.2)]; rfl]
        obtain ⟨q, hq, hne, heq⟩ := first_not h3
        have H3 : Hid (∀ i, i < q → L i = l0) := heq
        have HN : Hid (¬ L q = l0) := hne
        obtain ⟨h2a, h2b⟩ := h2
        clear hcl hl h3 hl0 heq hne
        have hq0 : ((l0 : Int) != (l0 : Int)) = false := by simp
        go_enter Try.func45, Try.ntmps45
        go_wp2
        go_loopw [3] (fun i wr => ∃ k : Nat, k ≤ q ∧ i = .int .i64 k ∧ Hid (∃ q, wr = w.drewN q)) (fun i _ => ll - (intOf i).toNat)
        case atStart => exact ⟨0, Nat.zero_le _, rfl, 0, rfl⟩
        case round =>
          obtain ⟨k, hk, rfl, hdr⟩ := hrel
          have d0 : wr.cell? ⟨b, off, none⟩ = some (.slice (A 0) l0 (C 0)) := held c0 (drewN_below hdr.out)
          have ck := held (HCL.out k (by omega)) (drewN_below hdr.out)
          have i2 : (0 : Int) ≤ (k : Int) := by omega
          have i3 : (k : Int) < (ll : Int) := by omega
          by_cases hlt : k < q
          · rw [H3.out k hlt] at ck
            go_wp2
            go_quiet (fail)
            go_wp2
            go_roundw
            case rel =>
              obtain ⟨q', hq'⟩ := hdr.out
              exact ⟨k + 1, by omega, by go_num, q' + nq, by rw [hq']; simp [World.drewN, Nat.add_assoc]⟩
            case measure => simp [intOf]; omega
          · obtain rfl : k = q := by omega
            have hb : ((L k : Int) != (l0 : Int)) = true := by have := HN.out; simp; omega
            go_wp2
            go_quiet (fail)
            go_wp2
            go_ret
            obtain ⟨q', hq'⟩ := hdr.out
            exact ⟨rfl, q' + nq, by rw [hq']; simp [World.drewN, Nat.add_assoc]⟩
    · rw [show errB (okM ll L) 30 = 30 by rw [show okM ll L = false from decide_eq_false fun g => h2 (by rw [hl0]; exact ⟨g.2.2.1, g.2.2.2.1⟩)]; rfl]
      clear hcl hl hl0
      by_cases h2a : 1 ≤ l0
      · have h2b : 32 < l0 := by omega
        clear h2
        go_enter Try.func45, Try.ntmps45
        go_wp2
        go_ret
        exact ⟨rfl, 0, rfl⟩
      · have h2b : l0 < 1 := by omega
        clear h2 h2a
        go_enter Try.func45, Try.ntmps45
        go_wp2
        go_ret
        exact ⟨rfl, 0, rfl⟩
  · rw [show errB (okM ll L) 30 = 30 by rw [show okM ll L = false from decide_eq_false fun g => h1 ⟨g.1, g.2.1⟩]; rfl]
    clear hl
    by_cases h1a : 1 ≤ ll
    · have h1b : 32 < ll := by omega
      clear h1
      go_enter Try.func45, Try.ntmps45
      go_wp2
      go_ret
      exact ⟨rfl, 0, rfl⟩
    · have h1b : ll < 1 := by omega
      clear h1 h1a
      go_enter Try.func45, Try.ntmps45
      go_wp2
      go_ret
      exact ⟨rfl, 0, rfl⟩

/-- What is there behind k whole rows and l bytes of the next one. -/
def fill (F : M) (k l : Nat) : M := fun i j => if i < k ∨ (i = k ∧ j < l) then F i j else 0
theorem fill_zero (F : M) : fill F 0 0 = fun _ _ => 0 := by funext i j; unfold fill; rw [if_neg (by omega)]
theorem fill_at (F : M) (k l : Nat) : fill F k l k l = 0 := by unfold fill; rw [if_neg (by omega)]
theorem fill_store (F : M) (k l : Nat) (i j : Nat) : (if i = k ∧ j = l then F k l else fill F k l i j) = fill F k (l + 1) i j := by
  unfold fill
  by_cases e : i = k ∧ j = l
  · rw [if_pos e, if_pos (.inr ⟨e.1, by omega⟩), e.1, e.2]
  · rw [if_neg e]
    by_cases g : i < k ∨ i = k ∧ j < l
    · rw [if_pos g, if_pos (by omega)]
    · rw [if_neg g, if_neg (by omega)]
theorem fill_row (F : M) (k cols i j : Nat) (hj : j < cols) : fill F k cols i j = fill F (k + 1) 0 i j := by
  unfold fill
  by_cases g : i < k ∨ i = k ∧ j < cols
  · rw [if_pos g, if_pos (by omega)]
  · rw [if_neg g, if_neg (by omega)]
theorem fill_all (F : M) (rows i j : Nat) (hi : i < rows) : fill F rows 0 i j = F i j := by unfold fill; rw [if_pos (.inl hi)]

theorem rinv_k (a : K) (w : World) (h : a ≠ 0) : Calls Try.prog 44 #[.int .u8 (a.n : Int)] w fun e w' => e = .returned (.tuple #[.int .u8 (a.inv.n : Int), .int .i64 0]) ∧ w' = w := rinv_n a.n w a.lt (K.ne_zero h)
theorem rmul_k (a b : K) (w : World) : Calls Try.prog 58 #[.int .u8 (a.n : Int), .int .u8 (b.n : Int)] w fun e w' => e = .returned (.int .u8 (((K.mul a b)).n : Int)) ∧ w' = w := rmul_n a.n b.n w a.lt b.lt
theorem rdiv_k (a b : K) (w : World) (h : b ≠ 0) : Calls Try.prog 47 #[.int .u8 (a.n : Int), .int .u8 (b.n : Int)] w fun e w' => e = .returned (.tuple #[.int .u8 (((K.mul a b.inv)).n : Int), .int .i64 0]) ∧ w' = w := rdiv_n a.n b.n w a.lt b.lt (K.ne_zero h)
theorem xor_k (a b : K) : bits .xor .u8 (a.n : Int) (b.n : Int) = ((((K.add a b)).n : Nat) : Int) := u8_xor_nat a.n b.n a.lt b.lt

set_option maxHeartbeats 1000000 in
set_option maxRecDepth 100000 in
theorem rcauchy_any (w : World) (k r : Int) : Calls Try.prog 31 #[.int .i64 k, .int .i64 r] w (Made w (okN k 12 && okN r 4) 2 r.toNat k.toNat (cau k.toNat)) := by
  cases hok : okN k 12
  · have h := of_decide_eq_false hok
    rw [Bool.false_and]
    by_cases h1 : k < 1
    · clear hok h
      go_enter Try.func31, Try.ntmps31
      go_wp2
      go_ret2
      exact made_no (Below.refl _ _)
    · have h2 : 12 < k := by omega
      clear h hok
      go_enter Try.func31, Try.ntmps31
      go_wp2
      go_ret2
      exact made_no (Below.refl _ _)
  obtain ⟨ha, hb⟩ := of_decide_eq_true hok
  cases hok2 : okN r 4
  · have h := of_decide_eq_false hok2
    rw [Bool.and_false]
    by_cases h1 : r < 1
    · clear hok hok2 h
      go_enter Try.func31, Try.ntmps31
      go_wp2
      go_ret2
      exact made_no (Below.refl _ _)
    · have h2 : 4 < r := by omega
      clear h hok hok2
      go_enter Try.func31, Try.ntmps31
      go_wp2
      go_ret2
      exact made_no (Below.refl _ _)
  obtain ⟨hc, hd⟩ := of_decide_eq_true hok2
  obtain ⟨k, rfl⟩ := Int.eq_ofNat_of_zero_le (show 0 ≤ k by omega)
  obtain ⟨r, rfl⟩ := Int.eq_ofNat_of_zero_le (show 0 ≤ r by omega)
  rw [Int.toNat_natCast, Int.toNat_natCast]
  clear hok hok2
  go_enter Try.func31, Try.ntmps31
  go_wp2_with fail
  refine (blank_mat w r k (by omega) (by omega) (by omega)).mono ?_
  rintro e w1 ⟨l, cap, G, rfl, hm, b1⟩
  have HM : Hid (Mat w1 w.heap.size w1.heap.size l cap r k G (fun _ => k) (fun _ _ => 0)) := hm
  have HB : Hid (Below w.heap.size w w1) := b1
  clear hm b1
  go_wp2_with fail
  go_loopw [7] (fun i wr => ∃ p : Nat, p ≤ r ∧ i = .int .i64 p ∧ Hid (Mat wr w.heap.size w1.heap.size l cap r k G (fun _ => k) (fill (cau k) p 0)) ∧ Hid (Below w.heap.size w wr ∧ w1.heap.size ≤ wr.heap.size)) (fun i _ => r - (intOf i).toNat)
  case atStart => exact ⟨0, Nat.zero_le _, rfl, by rw [fill_zero]; exact HM.out, HB.out, Nat.le_refl _⟩
  case round =>
    obtain ⟨p, hp, rfl, hmat, hbel⟩ := hrel
    by_cases hlt : p < r
    · obtain ⟨w2, rfl⟩ : ∃ x, x = wr := ⟨wr, rfl⟩
      go_wp2
      go_loopw [8] (fun i wr => ∃ q : Nat, q ≤ k ∧ i = .int .i64 q ∧ Hid (Mat wr w.heap.size w1.heap.size l cap r k G (fun _ => k) (fill (cau k) p q)) ∧ Hid (Below w.heap.size w wr ∧ w1.heap.size ≤ wr.heap.size)) (fun i _ => k - (intOf i).toNat)
      case atStart => exact ⟨0, Nat.zero_le _, rfl, hmat.out, hbel.out⟩
      case round =>
        obtain ⟨q, hq, rfl, hmat2, hbel2⟩ := hrel
        by_cases hqk : q < k
        · have c1 := hmat2.out.cell_l hlt
          have c2 := (hmat2.out.row p hlt).cell hqk
          have z2 := (hmat2.out.row p hlt).frozen q
          have e1 : ((K.of (k + p)).n : Int) = (k : Int) + (p : Int) := by rw [K.of_n _ (by omega)]; omega
          have e2 : ((K.of q).n : Int) = (q : Int) := by rw [K.of_n _ (by omega)]
          have hne : (K.add (K.of (k + p)) (K.of q)) ≠ 0 := K.sub_ne fun e => by have := of_inj (by omega) (by omega) e; omega
          have HI : Hid (∀ w', Calls Try.prog 44 #[.int .u8 (bits .xor .u8 ((k : Int) + (p : Int)) (q : Int))] w' fun e w'' => e = .returned (.tuple #[.int .u8 ((cau k p q).n : Int), .int .i64 0]) ∧ w'' = w') := fun w' => by rw [← e1, ← e2, xor_k]; exact rinv_k _ w' hne
          clear e1 e2 hne
          have m0 : IntKind.i64.wrap ((k : Int) + (p : Int)) = (k : Int) + (p : Int) := by rw [IntKind.wrap_i64]; omega
          have m1 : IntKind.u8.wrap ((k : Int) + (p : Int)) = (k : Int) + (p : Int) := by rw [IntKind.wrap_u8]; omega
          have m2 : IntKind.u8.wrap (q : Int) = (q : Int) := by rw [IntKind.wrap_u8]; omega
          have i1 : (0 : Int) ≤ (p : Int) := by omega
          have i2 : (p : Int) < (r : Int) := by omega
          have i3 : (0 : Int) ≤ (q : Int) := by omega
          have i4 : (q : Int) < (k : Int) := by omega
          obtain ⟨X, hX⟩ : ∃ X, X = cau k p q := ⟨_, rfl⟩
          rw [← hX] at HI
          have HX : Hid (X = cau k p q) := hX
          clear hX
          go_wp2
          have kk : ∀ v, (wr.setCell ⟨G p, q, none⟩ v).cell? ⟨l, p, none⟩ = some (.slice (some ⟨G p, 0, none⟩) k k) := fun v => (World.cell?_of_block (Below.heap_setCell _ _ _ _ (by simp; exact fun e => hmat2.out.ne_l hlt e.symm))).trans c1
          have kd : ∀ v, (wr.drew.setCell ⟨G p, q, none⟩ v).cell? ⟨l, p, none⟩ = some (.slice (some ⟨G p, 0, none⟩) k k) := kk
          go_region_held3 (fun w' => w'.cell? ⟨l, p, none⟩ = some (.slice (some ⟨G p, 0, none⟩) k k)) (go_keep) ((go_at_call 44; refine (HI.out _).mono ?_; rintro e w' ⟨rfl, hw'⟩; obtain rfl := hw'.symm))
          go_wp2
          go_roundw
          case rel => exact ⟨q + 1, by omega, by go_num, ((hmat2.out.store hlt X).congr (fun i j _ _ => by rw [HX.out]; exact fill_store (cau k) p q i j)).below (below_drew _ _), below_step (hmat2.out.keep hlt hbel2.out.1 hbel2.out.1.size q _) (below_drew _ _) (by rw [size_set]; exact hbel2.out.1.size), by show _ ≤ (wr.setCell _ _).heap.size; rw [size_set]; exact hbel2.out.2⟩
          case measure => simp [intOf]; omega
        · obtain rfl : q = k := by omega
          go_wp2
          go_roundw
          case rel => exact ⟨p + 1, by omega, by go_num, hmat2.out.congr (fun i j _ hj => fill_row (cau q) p q i j hj), hbel2.out⟩
          case measure => simp [intOf]; omega
    · obtain rfl : p = r := by omega
      go_wp2
      go_ret2
      exact ref_made (hmat.out.congr fun i j hi _ => fill_all (cau k) p i j hi) hbel.out.2 hbel.out.1

end Go.Proofs.Ythkikocacbbhkaa
