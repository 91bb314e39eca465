/- Numbers as bytes, refs as bytes, bytes made wide: by the document. -/
import Derived.Test.YtjncnojplkljnaaDsE
namespace Go.Proofs.Ytjncnojplkljnaa
open Go.RowKit

/-- The last t of k bytes of m. -/
def lastB (m k t : Nat) (j : Nat) : UInt8 := if k ≤ j + t ∧ j < k then dg m (k - 1 - j) else 0
theorem lastB_step {m k t : Nat} (ht : t < k) : put (k - 1 - t) (dg m t) (lastB m k t) = lastB m k (t + 1) := by
  funext j
  unfold put lastB
  by_cases e : j = k - 1 - t
  · rw [if_pos e, if_pos (by omega), show k - 1 - j = t by omega]
  · rw [if_neg e]
    by_cases h : k ≤ j + t ∧ j < k
    · rw [if_pos h, if_pos (by omega)]
    · rw [if_neg h, if_neg (by omega)]
theorem make_same (W : Nat) (hW : W ≤ 5000) (w : World) : (Instr.makeSlice 29 (.int .i64 (W : Int)) (.int .i64 (W : Int))).run Try.prog w = .ok (.slice (some ⟨w.heap.size, 0, none⟩) W W) (w.alloc (.cells (byF W (fun _ => 0)).toArray 5)) := by
  have := run_make_row' (P := Try.prog) 29 5 (.int .u8 0) 1 Try.underlying29 info5 rfl .i64 .i64 W (by omega) (by omega) w
  rw [this, made_bytes]
set_option maxHeartbeats 4000000 in
set_option maxRecDepth 100000 in
theorem number_any (w : World) (m k : Nat) (hk : k ≤ 4) (hm : m < 4294967296) :
    Calls Try.prog 63 #[.int .i64 (m : Int), .int .i64 (k : Int)] w fun e w' => ∃ g, e = .returned (.slice (some ⟨g, 0, none⟩) k k) ∧ Bk w' g k (fun j => dg m (k - 1 - j)) ∧ w.heap.size ≤ g ∧ Below w.heap.size w w' := by
  obtain ⟨Z, hZ⟩ : ∃ Z, Z = (byF k (fun _ => 0)).toArray := ⟨_, rfl⟩
  have hmk := make_same k (by omega)
  rw [← hZ] at hmk
  have HB0 : Hid (Bk (w.alloc (.cells Z 5)) w.heap.size k (lastB m k 0)) := by
    show Bk _ _ _ _
    have : Bk (w.alloc (.cells Z 5)) w.heap.size k (fun _ => 0) := by unfold Bk; rw [hZ]; exact heap_alloc_new w _
    exact this.congr fun j hj => by unfold lastB; rw [if_neg (by omega)]
  have HBB : Hid (Below w.heap.size w (w.alloc (.cells Z 5))) := below_alloc _ _
  clear hZ
  have hk1 : IntKind.i64.wrap ((k : Int) - 1) = (k : Int) - 1 := by rw [IntKind.wrap_i64]; omega
  go_enter Try.func63, Try.ntmps63
  go_wp2_with fail
  go_loopw [0, 6] (fun y x wr => ∃ t z : Nat, ∃ j : Int, t ≤ k ∧ x = .int .i64 j ∧ j + 1 + (t : Int) = (k : Int) ∧ y = .int .i64 (z : Int) ∧ Hid (z = m / 256 ^ t) ∧ Hid (Bk wr w.heap.size k (lastB m k t)) ∧ Hid (Below w.heap.size w wr)) (fun _ x _ => (intOf x + 1).toNat)
  case atStart => exact ⟨0, m, (k : Int) - 1, Nat.zero_le _, rfl, by omega, rfl, (show m = m / 256 ^ 0 from by simp), HB0, HBB⟩
  case round =>
    obtain ⟨t, z, j, ht, rfl, hj, rfl, hz, hbk, hbel⟩ := hrel
    by_cases hlt : 0 ≤ j
    · obtain ⟨s, rfl⟩ : ∃ s : Nat, j = (s : Int) := ⟨j.toNat, by omega⟩
      have hs : s = k - 1 - t := by omega
      have htk : t < k := by omega
      have hzm : z < 4294967296 := by rw [hz.out]; exact Nat.lt_of_le_of_lt (Nat.div_le_self _ _) hm
      have hd : (z : Int) % 256 = (((dg m t).toNat : Nat) : Int) := by rw [dg_toNat, ← hz.out]; omega
      have HX : Hid (Bk (wr.setCell ⟨w.heap.size, s, none⟩ (.int .u8 ((z : Int) % 256))) w.heap.size k (lastB m k (t + 1))) := by
        show Bk _ _ _ _
        rw [hd, hs, ← lastB_step htk]
        exact hbk.out.set _ _
      have HY : Hid (Below w.heap.size w (wr.setCell ⟨w.heap.size, s, none⟩ (.int .u8 ((z : Int) % 256)))) := hbel.out.setCell (Nat.le_refl _) _
      have HZ : Hid (z / 256 = m / 256 ^ (t + 1)) := by show _ = _; rw [hz.out, pow_step]
      have ck := hbk.out.cell (i := s) (by omega)
      have f := hbk.out.free
      have i1 : (0 : Int) ≤ (s : Int) := by omega
      have i2 : (s : Int) < (k : Int) := by omega
      clear hd hs
      go_wp2_with fail
      exact ⟨⟨t + 1, z / 256, (s : Int) - 1, by omega, by go_num, by omega, by go_num, HZ, HX, HY⟩, by simp [intOf]⟩
    · have htk : t = k := by omega
      go_wp2_with fail
      go_ret
      refine ⟨w.heap.size, rfl, hbk.out.congr fun i hi => ?_, Nat.le_refl _, hbel.out⟩
      unfold lastB; rw [if_pos (by omega)]
set_option maxHeartbeats 2000000 in
set_option maxRecDepth 100000 in
theorem worth_any (w : World) (ao : Option Addr) (n cp : Nat) (F : Nat → UInt8) (h : RdU w ao n F) (hn : n ≤ 4) :
    Calls Try.prog 47 #[.slice ao n cp] w fun e w' => e = .returned (.int .i64 ((nm F 0 n : Nat) : Int)) ∧ w' = w := by
  have HR : Hid (RdU w ao n F) := h
  have HB : Hid (∀ j, j ≤ n → nm F 0 j < 4294967296) := fun j hj => Nat.lt_of_lt_of_le (nm_lt F 0 j) (by
    rcases (show j = 0 ∨ j = 1 ∨ j = 2 ∨ j = 3 ∨ j = 4 by omega) with rfl | rfl | rfl | rfl | rfl <;> decide)
  have HS : Hid (∀ j, nm F 0 (j + 1) = nm F 0 j * 256 + (F j).toNat) := fun j => by show _ = _; rw [nm, Nat.zero_add]
  have HL : Hid (∀ j, (F j).toNat < 256) := fun j => (F j).toNat_lt
  clear h
  go_enter Try.func47, Try.ntmps47
  go_wp2
  go_loop [3, 4] (fun y x => ∃ i : Nat, i ≤ n ∧ x = .int .i64 (i : Int) ∧ ∃ z : Nat, y = .int .i64 (z : Int) ∧ Hid (z = nm F 0 i)) (fun _ x => n - (intOf x).toNat)
  case atStart => exact ⟨0, Nat.zero_le _, rfl, 0, rfl, rfl⟩
  case round =>
    obtain ⟨i, hi, rfl, z, rfl, hz⟩ := hrel
    by_cases hlt : i < n
    · obtain ⟨b, off, rfl, hr⟩ := HR.out (by omega)
      have ck := hr i (by omega)
      have hb := HB.out i (by omega)
      have hb2 := HB.out (i + 1) (by omega)
      have hs := HS.out i
      have hl := HL.out i
      rw [← hz.out] at hb hs
      obtain ⟨u, hu⟩ : ∃ u : Nat, (F i).toNat = u := ⟨_, rfl⟩
      rw [hu] at ck hs hl
      have HN : Hid (nm F 0 (i + 1) = z * 256 + u) := hs
      have i1 : (0 : Int) ≤ (i : Int) := by omega
      have i2 : (i : Int) < (n : Int) := by omega
      clear hs hu hz hr hb2
      go_wp2
      go_round
      case rel => exact ⟨i + 1, by omega, by go_num, z * 256 + u, by go_num, HN.out.symm⟩
      case measure => simp [intOf]; omega
    · obtain rfl : i = n := by omega
      go_wp2
      go_ret
      exact ⟨ret_int (by rw [hz.out]), rfl⟩
theorem rf_step {n : Nat} {R V : Nat → Int} {F : Nat → UInt8} (hF : ∀ j, j < 6 * n → F j = rfB R V j) : ∀ j, j < 6 * n + 2 + 4 → upR (upR F (6 * n) 2 (fun t => dg (R n).toNat (2 - 1 - t))) (6 * n + 2) 4 (fun t => dg (V n).toNat (4 - 1 - t)) j = rfB R V j := by
  intro j hj
  by_cases h2 : 6 * n + 2 ≤ j ∧ j < 6 * n + 2 + 4
  · rw [upR_in h2]
    have := rfB_ver (R := R) (V := V) (i := n) (t := j - (6 * n + 2)) (by omega)
    rw [show 6 * n + 2 + (j - (6 * n + 2)) = j by omega] at this
    exact this.symm
  · rw [upR_out h2]
    by_cases h1 : 6 * n ≤ j ∧ j < 6 * n + 2
    · rw [upR_in h1]
      have := rfB_row (R := R) (V := V) (i := n) (t := j - 6 * n) (by omega)
      rw [show 6 * n + (j - 6 * n) = j by omega] at this
      exact this.symm
    · rw [upR_out h1]; exact hF j (by omega)
theorem Bk.bec {w : World} {g n : Nat} {G : Nat → UInt8} (h : Bk w g n G) : Bec w (some ⟨g, 0, none⟩) n n G :=
  ⟨fun _ => ⟨g, 0, rfl, fun j hj => by rw [Nat.zero_add]; exact h.cell hj⟩, (fun e => by cases e), Nat.le_refl _⟩
set_option maxHeartbeats 4000000 in
set_option maxRecDepth 100000 in
theorem told_any (w : World) (ro : Option Addr) (n rc : Nat) (R V : Nat → Int) (hR : RdR w ro n R V) (hn : n ≤ 1000) (hok : ∀ i, i < n → (0 ≤ R i ∧ R i < 4294967296) ∧ 0 ≤ V i ∧ V i < 4294967296) :
    Calls Try.prog 44 #[.slice ro n rc] w fun e w' => ∃ uo uc, e = .returned (.slice uo (6 * n) uc) ∧ OwU w.heap.size w' uo (6 * n) uc (rfB R V) ∧ Below w.heap.size w w' := by
  have HR : Hid (RdR w ro n R V) := hR
  have HK : Hid (∀ i, i < n → ∃ ri vi : Nat, R i = (ri : Int) ∧ V i = (vi : Int) ∧ ri < 4294967296 ∧ vi < 4294967296) := fun i hi => ⟨(R i).toNat, (V i).toNat, by have := hok i hi; omega, by have := hok i hi; omega, by have := hok i hi; omega, by have := hok i hi; omega⟩
  clear hR hok
  go_enter Try.func44, Try.ntmps44
  go_wp2_with fail
  go_loopw [3, 4] (fun y x wr => ∃ i : Nat, i ≤ n ∧ x = .int .i64 (i : Int) ∧ (∃ uo uc, y = .slice uo (6 * i) uc ∧ Hid (OwU w.heap.size wr uo (6 * i) uc (rfB R V))) ∧ Hid (Below w.heap.size w wr)) (fun _ x _ => n - (intOf x).toNat)
  case atStart => exact ⟨0, Nat.zero_le _, rfl, ⟨none, 0, rfl, owu_nil _ _ _⟩, Below.refl _ _⟩
  case round =>
    obtain ⟨i, hi, rfl, ⟨uo, uc, rfl, hown⟩, hbel⟩ := hrel
    by_cases hlt : i < n
    · obtain ⟨b, off, rfl, hcc⟩ := (HR.out.below hbel.out) (by omega)
      obtain ⟨q0, q1⟩ := hcc i hlt
      obtain ⟨ri, vi, e1, e2, l1, l2⟩ := HK.out i hlt
      rw [e1] at q0
      rw [e2] at q1
      have HST : Hid (∀ j, j < 6 * i + 2 + 4 → upR (upR (rfB R V) (6 * i) 2 (fun t => dg ri (2 - 1 - t))) (6 * i + 2) 4 (fun t => dg vi (4 - 1 - t)) j = rfB R V j) := by
        have := rf_step (n := i) (R := R) (V := V) (F := rfB R V) (fun _ _ => rfl)
        rw [e1, e2, Int.toNat_natCast, Int.toNat_natCast] at this
        exact this
      have i1 : (0 : Int) ≤ (i : Int) := by omega
      have i2 : (i : Int) < (n : Int) := by omega
      have Q1 : Hid (wr.cell? ⟨b, off + i * 2 + 1, none⟩ = some (.int .i64 (vi : Int)) ∧ b < w.heap.size) := ⟨q1, by
        obtain ⟨b', off', e, h'⟩ := HR.out (by omega)
        cases e
        exact World.block_lt_of_cell? w _ (h' i hlt).1⟩
      clear hcc e1 e2 q1
      go_wp2_with fail
      refine (number_any _ ri 2 (by omega) l1).mono ?_
      rintro e wa ⟨g, rfl, hg, hgl, ha⟩
      have ho := hown.out.below ha
      have hvb := hg.bec
      have hs : w.heap.size ≤ wa.heap.size := Nat.le_trans hbel.out.size ha.size
      have HG : Hid (∀ g, (Value.slice uo (6 * i) uc).ownBlock = some g → w.heap.size ≤ g) := own_ge hown.out
      have hbl := below_step hbel.out ha hbel.out.size
      have q2 := held Q1.out.1 ha
      go_wp2_with (at_builtin; refine wpList_append_bytes (by rfl) (.tmp 11) (.tmp 17) (by rfl) w.heap.size (6 * i) 2 uc 2 uo (some ⟨g, 0, none⟩) _ _ (by rfl) (by rfl) ho hvb (by omega) hs ?_; intro uo2 uc2 w2 ho2 hg2; have HO2 : Hid (OwU w.heap.size w2 uo2 (6 * i + 2) uc2 (upR (rfB R V) (6 * i) 2 (fun t => dg ri (2 - 1 - t)))) := ho2; have HB2 : Hid (Below w.heap.size w w2) := hbl.grown hg2 hs HG.out; have q3 := hg2.cell q2 (by intro e; have h1 := HG.out _ e.symm; have h2 := Q1.out.2; have h3 : w.heap.size ≤ b := h1; omega); clear ho2 hg2 ho hvb hbl q2 hg hgl)
      have HG2 : Hid (∀ g, (Value.slice uo2 (6 * i + 2) uc2).ownBlock = some g → w.heap.size ≤ g) := own_ge HO2.out
      refine (number_any _ vi 4 (by omega) l2).mono ?_
      rintro e wb ⟨g3, rfl, hg3, _, hb⟩
      have ho3 := HO2.out.below hb
      have hvb3 := hg3.bec
      have hs3 : w.heap.size ≤ wb.heap.size := Nat.le_trans HB2.out.size hb.size
      have hbl3 := below_step HB2.out hb HB2.out.size
      go_wp2_with (at_builtin; refine wpList_append_bytes (by rfl) (.tmp 19) (.tmp 25) (by rfl) w.heap.size (6 * i + 2) 4 uc2 4 uo2 (some ⟨g3, 0, none⟩) _ _ (by rfl) (by rfl) ho3 hvb3 (by omega) hs3 ?_; intro uo4 uc4 w4 ho4 hg4; have HO4 : Hid (OwU w.heap.size w4 uo4 (6 * i + 2 + 4) uc4 (rfB R V)) := ho4.congr HST.out; have HB4 : Hid (Below w.heap.size w w4) := hbl3.grown hg4 hs3 HG2.out; clear ho4 hg4 ho3 hvb3 hbl3 hg3)
      exact ⟨⟨i + 1, by omega, by go_num, ⟨uo4, uc4, by rw [show 6 * (i + 1) = 6 * i + 2 + 4 by omega], by rw [show 6 * (i + 1) = 6 * i + 2 + 4 by omega]; exact HO4⟩, HB4⟩, by simp [intOf]; omega⟩
    · obtain rfl : i = n := by omega
      go_wp2
      go_ret
      exact ⟨uo, uc, rfl, hown.out, hbel.out⟩
theorem byF_splice {n k : Nat} (G H : Nat → UInt8) (h : k ≤ n) : byF k H ++ (byF n G).drop k = byF n (upR G 0 k H) := by
  have := byF_up (W := n) (n := 0) (m := k) G H (by omega)
  rw [List.take_zero, List.nil_append, Nat.zero_add] at this
  exact this
theorem run_copy_bk {w : World} {g n k dC : Nat} {G H : Nat → UInt8} {bo : Option Addr} {cb : Nat} (h0 : 0 < k) (hg : Bk w g n G) (hb : Bec w bo k cb H) (hfit : k ≤ n) :
    ∃ w', (Builtin.copy_ #[29, 29] 3 #[.slice (some ⟨g, 0, none⟩) n dC, .slice bo k cb]).run Try.prog w = .ok (goInt k) w' ∧ Bk w' g n (upR G 0 k H) ∧ Only (fun b => b = g) w w' := by
  obtain ⟨b, bof, rfl, hc⟩ := hb.rd h0
  have hl : (byF k H).length = Nat.min k n := by rw [byF_length]; exact (Nat.min_eq_left hfit).symm
  have hrun := run_copy_row (P := Try.prog) w 29 29 3 5 g 0 n dC ⟨b, bof, none⟩ k cb (byF n G).toArray 5 (byF k H) Try.underlying29 (by kernel_rfl) hg hl (bec_news hb) (by simp [byF_length]; exact hfit) (byF_one k H)
  rw [byF_length] at hrun
  refine ⟨_, hrun, ?_, ⟨rfl, rfl, rfl, by simp [World.setRow], fun k _ hk => setRow_other w g k _ hk⟩⟩
  unfold Bk
  rw [← byF_splice G H hfit]
  have := setRow_heap w g _ (byF k H ++ (byF n G).drop k).toArray 5 _ hg
  simpa using this
set_option maxHeartbeats 4000000 in
set_option maxRecDepth 100000 in
theorem wide_any {k r c q : Int} {W : Nat} (hkc : wrap64 (k * c) = (W : Int)) (hW2 : W ≤ 768) (w : World) (bo : Option Addr) (n bc : Nat) (H : Nat → UInt8) (hH : Bec w bo n bc H) (h0 : 0 < n) (hn : n ≤ W) :
    Calls Try.prog 43 #[.agg #[.int .i64 k, .int .i64 r, .int .i64 c, .int .i64 q], .slice bo n bc] w fun e w' => ∃ g, e = .returned (.slice (some ⟨g, 0, none⟩) W W) ∧ Bk w' g W (upR (fun _ => 0) 0 n H) ∧ w.heap.size ≤ g ∧ Below w.heap.size w w' := by
  have CW := fun w => W_any k r c q w
  rw [hkc] at CW
  obtain ⟨Z, hZ⟩ : ∃ Z, Z = (byF W (fun _ => 0)).toArray := ⟨_, rfl⟩
  have hmk := make_same W (by omega)
  rw [← hZ] at hmk
  have HZ : Hid (∀ w : World, Bk (w.alloc (.cells Z 5)) w.heap.size W (fun _ => 0)) := fun w => by unfold Bk; rw [hZ]; exact heap_alloc_new w _
  have HX : Hid (Bec w bo n bc H) := hH
  clear hZ hkc hH
  obtain ⟨w0, hw0⟩ : ∃ w0, w0 = w.alloc (.cells #[.int .i64 k, .int .i64 r, .int .i64 c, .int .i64 q] 24) := ⟨_, rfl⟩
  have b0 : Below w.heap.size w w0 := by rw [hw0]; exact below_alloc _ _
  go_enter Try.func43, Try.ntmps43
  go_wp2_with fail
  rw [← hw0]
  refine (CW _).mono ?_
  rintro e wa ⟨rfl, ha⟩
  have k1 := below_then b0 ha
  have k2 : Below w.heap.size w (wa.alloc (.cells Z 5)) := k1.alloc k1.size _
  obtain ⟨wc, hrun, hbk, hon⟩ := run_copy_bk (dC := W) h0 (HZ.out wa) (HX.out.below k2) hn
  have HB : Hid (Bk wc wa.heap.size W (upR (fun _ => 0) 0 n H)) := hbk
  have HG : Hid (w.heap.size ≤ wa.heap.size) := k1.size
  have HK : Hid (Below w.heap.size w wc) := k2.trans (hon.below (fun t e => by rw [e]; exact HG.out) k2.size)
  clear hw0 b0 ha k1 k2 hbk hon
  go_wp2_with fail
  go_ret
  exact ⟨wa.heap.size, rfl, HB.out, HG.out, HK.out⟩
end Go.Proofs.Ytjncnojplkljnaa
