/- Raw writes made, up to the first error. -/
import Derived.Test.YtdicogmjjboilaaDskL
namespace Go.Proofs.Ytdicogmjjboilaa
open Go.RowKit

theorem Only.step {X Y : Nat → Prop} {a b c : World} (h : Only X a b) (k : Only Y b c) (hx : ∀ i, i < a.heap.size → Y i → X i) : Only X a c :=
  ⟨k.os.trans h.os, k.tape.trans h.tape, k.output.trans h.output, Nat.le_trans h.size k.size, fun i hi hn => (k.block i (Nat.lt_of_lt_of_le hi h.size) fun hy => hn (hx i hi hy)).trans (h.block i hi hn)⟩
/-- A list of n raw writes that lies in the blocks Z. -/
structure Pts (w : World) (Z : Nat → Prop) (po : Option Addr) (n : Nat) (D : Nat → Pt) (B : Nat → Option Addr) (K : Nat → Nat) : Prop where
  at_ : 0 < n → ∃ b off, po = some ⟨b, off, none⟩ ∧ ∀ i, i < n → w.cell? ⟨b, off + i * 4, none⟩ = some (.int .i64 (D i).d) ∧ w.cell? ⟨b, off + i * 4 + 1, none⟩ = some (.int .i64 (D i).r) ∧ w.cell? ⟨b, off + i * 4 + 2, none⟩ = some (.int .i64 (D i).s) ∧ w.cell? ⟨b, off + i * 4 + 3, none⟩ = some (.slice (B i) (D i).b.length (K i))
  rd : ∀ i, i < n → RdB w (B i) (D i).b
  nil : ∀ i, i < n → B i = none → (D i).b = [] ∧ K i = 0
  inl : ∀ a, 0 < n → po = some a → Z a.block
  inb : ∀ i a, i < n → (D i).b ≠ [] → B i = some a → Z a.block
theorem Pts.only {X Z : Nat → Prop} {w w' : World} {po : Option Addr} {n : Nat} {D : Nat → Pt} {B : Nat → Option Addr} {K : Nat → Nat} (h : Pts w Z po n D B K) (ho : Only X w w') (hx : ∀ b, Z b → ¬ X b) : Pts w' Z po n D B K := by
  refine ⟨fun hn => ?_, fun i hi => (h.rd i hi).only2 ho (fun hb a ha => hx _ (h.inb i a hi hb ha)), h.nil, h.inl, h.inb⟩
  obtain ⟨b, off, e, hc⟩ := h.at_ hn
  have hb : ¬ X b := hx b (h.inl _ hn e)
  refine ⟨b, off, e, fun i hi => ?_⟩
  obtain ⟨h1, h2, h3, h4⟩ := hc i hi
  exact ⟨ho.cell h1 hb, ho.cell h2 hb, ho.cell h3 hb, ho.cell h4 hb⟩
theorem Pts.below {Z : Nat → Prop} {w w' : World} {po : Option Addr} {n : Nat} {D : Nat → Pt} {B : Nat → Option Addr} {K : Nat → Nat} (h : Pts w Z po n D B K) (ho : Below w.heap.size w w') : Pts w' Z po n D B K := h.only (X := fun _ => False) (.of_below ho) (fun _ _ h => h)
/-- The raw writes from i to n. -/
def pl (D : Nat → Pt) (i n : Nat) : List Pt := (List.range' i (n - i)).map D
theorem pl_cons (D : Nat → Pt) {i n : Nat} (h : i < n) : pl D i n = D i :: pl D (i + 1) n := by
  unfold pl
  rw [show n - i = (n - (i + 1)) + 1 by omega, List.range'_succ]
  rfl
theorem pl_nil (D : Nat → Pt) (n : Nat) : pl D n n = [] := by unfold pl; rw [Nat.sub_self]; rfl
section
variable {Y Z : Nat → Prop} {w : World} {g : Nat} {k r c : Int} {N Q S : Nat} {st : St}
set_option maxHeartbeats 1000000 in
set_option maxRecDepth 100000 in
theorem Write_any (h : Dk w Y g k r c N Q S st) (po : Option Addr) (n pc : Nat) (D : Nat → Pt) (B : Nat → Option Addr) (K : Nat → Nat) (hn : n ≤ 9223372036854775807) (hp : Pts w Z po n D B K) (hz : ∀ b, Z b → b < w.heap.size) (hyz : ∀ b, Y b → ¬ Z b) :
    Calls Try.prog 17 #[.pointer (some ⟨g, 0, none⟩), .slice po n pc] w (Wr w Y g k r c N Q S (wrs N Q S st (pl D 0 n))) := by
  have HC : Calls Try.prog 45 #[.pointer (some ⟨g, 0, none⟩)] w fun e w' => e = .returned (.bool false) ∧ w' = w := by
    obtain ⟨l, cl, A, C, left, h⟩ := h
    exact nobodys_not w g _ _ cl h.size.1 (cells_dk h.blk).2.2.2.2.1
  obtain ⟨R, hR⟩ : ∃ R, R = wrs N Q S st (pl D 0 n) := ⟨_, rfl⟩
  have HR : Hid (wrs N Q S st (pl D 0 n) = R) := hR.symm
  have HD : Hid (Dk w Y g k r c N Q S st) := h
  have HP : Hid (Pts w Z po n D B K) := hp
  have HZ : Hid (∀ b, Z b → b < w.heap.size) := hz
  have HYZ : Hid (∀ b, Y b → ¬ Z b) := hyz
  rw [← hR]
  clear h hp hz hyz hR
  go_enter Try.func17, Try.ntmps17
  go_wp2_with fail
  refine HC.mono ?_
  rintro e w' ⟨rfl, hw'⟩
  obtain rfl := hw'.symm
  clear HC hw'
  go_wp2_with fail
  go_loopw [6, 7, 12] (fun _ _ x wr => ∃ i : Nat, i ≤ n ∧ x = .int .i64 i ∧ Hid (∃ Y' sti, Dk wr Y' g k r c N Q S sti ∧ (∀ b, Y' b → Y b ∨ w.heap.size ≤ b) ∧ Only Y w wr ∧ wrs N Q S sti (pl D i n) = R)) (fun _ _ x _ => n - (intOf x).toNat)
  case atStart => exact ⟨0, Nat.zero_le _, rfl, Y, st, HD.out, fun b hb => .inl hb, Only.refl _ _, HR.out⟩
  case round =>
    obtain ⟨i, hi, rfl, hrel⟩ := hrel
    obtain ⟨Y', sti, hd, hy', ho, hw⟩ := hrel.out
    by_cases hlt : i < n
    · have hpw := HP.out.only ho (fun b hb hy => HYZ.out b hy hb)
      obtain ⟨b, off, rfl, hc⟩ := hpw.at_ (by omega)
      obtain ⟨k0, k1, k2, k3⟩ := hc i hlt
      obtain ⟨x, hx⟩ : ∃ x, x = D i := ⟨_, rfl⟩
      rw [← hx] at k0 k1 k2 k3
      have i1 : (0 : Int) ≤ (i : Int) := by omega
      have i2 : (i : Int) < (n : Int) := by omega
      clear hc
      have HW := writeOne_any (hd.below (below_alloc wr (.cells #[.int .i64 x.d, .int .i64 x.r, .int .i64 x.s, .slice (B i) x.b.length (K i)] 45))) x.d x.r x.s (B i) x.b.length (K i) x.b rfl (by rw [hx]; exact (hpw.rd i hlt).below (below_alloc _ _)) (by rw [hx]; exact hpw.nil i hlt) (fun hb a ha hy => by
        have h1 := hpw.inb i a hlt (by rw [← hx]; exact hb) ha
        rcases hy' _ hy with h2 | h2
        · exact HYZ.out _ h2 h1
        · have := HZ.out _ h1; omega)
      obtain ⟨y, hyy⟩ : ∃ y, y = wr1 N Q S sti x := ⟨_, rfl⟩
      have HY : Hid (y = wr1 N Q S sti x) := hyy
      have HX : Hid (x = D i) := hx
      have HO : Hid (Only Y w wr) := ho
      have HY' : Hid (∀ b, Y' b → Y b ∨ w.heap.size ≤ b) := hy'
      have HWS : Hid (wrs N Q S sti (pl D i n) = R) := hw
      rw [show (⟨x.d, x.r, x.s, x.b⟩ : Pt) = x from rfl, ← hyy] at HW
      clear hpw hyy hx hd hy' ho hw hrel
      go_wp2_with fail
      refine HW.mono ?_
      rintro e wa ⟨rfl, hd2, ho2⟩
      have H2 : Hid (∃ Y2, Dk wa Y2 g k r c N Q S y.2 ∧ (∀ b, Y2 b → Y b ∨ w.heap.size ≤ b) ∧ Only Y w wa) := by
        obtain ⟨Y2, h1, h2⟩ := hd2
        refine ⟨Y2, h1, fun b hb => ?_, ?_⟩
        · rcases h2 b hb with h3 | h3
          · exact HY'.out b h3
          · have := HO.out.size; simp at h3; exact .inr (by omega)
        · exact (HO.out.alloc _).step ho2 fun b hb hy => by
            rcases HY'.out b hy with h3 | h3
            · exact h3
            · omega
      clear hd2 ho2 HW k0 k1 k2 k3
      by_cases h0 : y.1 = 0
      · go_wp2_with fail
        go_roundw
        case rel =>
          obtain ⟨Y2, h1, h2, h3⟩ := H2.out
          refine ⟨i + 1, by omega, by go_num, Y2, y.2, h1, h2, h3, ?_⟩
          have h4 := HWS.out
          have h5 := h0
          rw [pl_cons D hlt, ← HX.out] at h4
          rw [HY.out] at h5 ⊢
          rwa [wrs_go h5] at h4
        case measure => simp [intOf]; omega
      · have h1 : (y.1 != 0) = true := by simp; exact h0
        have HE : Hid (y = R) := by
          show _ = _
          have h4 := HWS.out
          have h5 := h0
          rw [pl_cons D hlt, ← HX.out] at h4
          rw [HY.out] at h5 ⊢
          rwa [wrs_stop h5] at h4
        go_wp2_with fail
        go_ret
        rw [← HE.out]
        obtain ⟨Y2, h1, h2, h3⟩ := H2.out
        exact ⟨rfl, ⟨Y2, h1, h2⟩, h3⟩
    · obtain rfl : i = n := by omega
      have HE : Hid ((0, sti) = R) := by show _ = _; rw [← hw, pl_nil]; rfl
      go_wp2_with fail
      go_ret
      rw [← HE.out]
      exact ⟨rfl, ⟨Y', hd, hy'⟩, ho⟩
end
end Go.Proofs.Ytdicogmjjboilaa
