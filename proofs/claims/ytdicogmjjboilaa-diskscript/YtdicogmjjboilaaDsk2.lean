/- The document's disk: several raw writes; whether steps are too many. -/
import Derived.Test.YtdicogmjjboilaaDsk1
namespace Go.Proofs.Ytdicogmjjboilaa
open Go.RowKit

section
variable {Y Z : Nat → Prop} {w : World} {g : Nat} {k r c : Int} {N Q S : Nat} {st : St}
set_option maxHeartbeats 1000000 in
set_option maxRecDepth 100000 in
theorem RAll_any (h : Rk w Y g k r c N Q S st) (po : Option Addr) (n pc : Nat) (D : Nat → Pt) (B : Nat → Option Addr) (K : Nat → Nat) (hn : n ≤ 9223372036854775807) (hp : Pts w Z po n D B K) (hl : ∀ i, i < n → (D i).b.length ≤ 9223372036854775807) (hz : ∀ b, Z b → b < w.heap.size) (hyz : ∀ b, Y b → ¬ Z b) :
    Calls Try.prog 18 #[.pointer (some ⟨g, 0, none⟩), .slice po n pc] w (WrR w Y g k r c N Q S (wrs N Q S st (pl D 0 n))) := by
  obtain ⟨R, hR⟩ : ∃ R, R = wrs N Q S st (pl D 0 n) := ⟨_, rfl⟩
  have HR : Hid (wrs N Q S st (pl D 0 n) = R) := hR.symm
  have HD : Hid (Rk w Y g k r c N Q S st) := h
  have HP : Hid (Pts w Z po n D B K) := hp
  have HLE : Hid (∀ i, i < n → (D i).b.length ≤ 9223372036854775807) := hl
  have HZ : Hid (∀ b, Z b → b < w.heap.size) := hz
  have HYZ : Hid (∀ b, Y b → ¬ Z b) := hyz
  rw [← hR]
  clear h hp hz hyz hR hl
  go_enter Try.func18, Try.ntmps18
  go_wp2_with fail
  go_loopw [5, 6] (fun x _ wr => ∃ i : Nat, i ≤ n ∧ x = .int .i64 i ∧ Hid (∃ Y' sti, Rk wr Y' g k r c N Q S sti ∧ (∀ b, Y' b → Y b ∨ w.heap.size ≤ b) ∧ Only Y w wr ∧ wrs N Q S sti (pl D i n) = R)) (fun x _ _ => n - (intOf x).toNat)
  case atStart => exact ⟨0, Nat.zero_le _, rfl, Y, st, HD.out, fun b hb => .inl hb, Only.refl _ _, HR.out⟩
  case round =>
    obtain ⟨i, hi, rfl, hrel⟩ := hrel
    obtain ⟨Y', sti, hd, hy', ho, hw⟩ := hrel.out
    by_cases hlt : i < n
    · have hpw := HP.out.only ho (fun b hb hy => HYZ.out b hy hb)
      obtain ⟨b, off, rfl, hc⟩ := hpw.at_ (by omega)
      obtain ⟨k0, k1, k2, k3⟩ := hc i hlt
      obtain ⟨x, hx⟩ : ∃ x, x = D i := ⟨_, rfl⟩
      rw [← hx] at k0 k1 k2 k3
      have i1 : (0 : Int) ≤ (i : Int) := by omega
      have i2 : (i : Int) < (n : Int) := by omega
      have hxl : x.b.length ≤ 9223372036854775807 := by rw [hx]; exact HLE.out i hlt
      clear hc
      have HW := RWrite_any hd x.d x.r x.s (B i) x.b.length (K i) x.b rfl hxl (by rw [hx]; exact hpw.rd i hlt) (fun hb a ha hy => by
        have h1 := hpw.inb i a hlt (by rw [← hx]; exact hb) ha
        rcases hy' _ hy with h2 | h2
        · exact HYZ.out _ h2 h1
        · have := HZ.out _ h1; omega)
      obtain ⟨y, hyy⟩ : ∃ y, y = wr1 N Q S sti x := ⟨_, rfl⟩
      have HY : Hid (y = wr1 N Q S sti x) := hyy
      have HX : Hid (x = D i) := hx
      have HO : Hid (Only Y w wr) := ho
      have HY' : Hid (∀ b, Y' b → Y b ∨ w.heap.size ≤ b) := hy'
      have HWS : Hid (wrs N Q S sti (pl D i n) = R) := hw
      rw [show (⟨x.d, x.r, x.s, x.b⟩ : Pt) = x from rfl, ← hyy] at HW
      clear hpw hyy hx hd hy' ho hw hrel
      go_wp2_with fail
      refine HW.mono ?_
      rintro e wa ⟨rfl, hd2, ho2⟩
      have H2 : Hid (∃ Y2, Rk wa Y2 g k r c N Q S y.2 ∧ (∀ b, Y2 b → Y b ∨ w.heap.size ≤ b) ∧ Only Y w wa) := by
        obtain ⟨Y2, h1, h2⟩ := hd2
        refine ⟨Y2, h1, fun b hb => ?_, ?_⟩
        · rcases h2 b hb with h3 | h3
          · exact HY'.out b h3
          · have := HO.out.size; exact .inr (by omega)
        · exact HO.out.step ho2 fun b hb hy => by
            rcases HY'.out b hy with h3 | h3
            · exact h3
            · omega
      clear hd2 ho2 HW k0 k1 k2 k3
      by_cases h0 : y.1 = 0
      · go_wp2_with fail
        go_roundw
        case rel =>
          obtain ⟨Y2, h1, h2, h3⟩ := H2.out
          refine ⟨i + 1, by omega, by go_num, Y2, y.2, h1, h2, h3, ?_⟩
          have h4 := HWS.out
          have h5 := h0
          rw [pl_cons D hlt, ← HX.out] at h4
          rw [HY.out] at h5 ⊢
          rwa [wrs_go h5] at h4
        case measure => simp [intOf]; omega
      · have h1 : (y.1 != 0) = true := by simp; exact h0
        have HE : Hid (y = R) := by
          show _ = _
          have h4 := HWS.out
          have h5 := h0
          rw [pl_cons D hlt, ← HX.out] at h4
          rw [HY.out] at h5 ⊢
          rwa [wrs_stop h5] at h4
        go_wp2_with fail
        go_ret
        rw [← HE.out]
        obtain ⟨Y2, h1, h2, h3⟩ := H2.out
        exact ⟨rfl, ⟨Y2, h1, h2⟩, h3⟩
    · obtain rfl : i = n := by omega
      have HE : Hid ((0, sti) = R) := by show _ = _; rw [← hw, pl_nil]; rfl
      go_wp2_with fail
      go_ret
      rw [← HE.out]
      exact ⟨rfl, ⟨Y', hd, hy'⟩, ho⟩
end
/-- A step of a script. -/
structure Sp where
  a : Int
  d : Int
  r : Int
  s : Int
  n : Int
  po : Option Addr
  m : Nat
  pc : Nat
/-- A list of n steps, and the raw writes in them. -/
structure Sps (w : World) (lo : Option Addr) (n : Nat) (X : Nat → Sp) : Prop where
  at_ : 0 < n → ∃ b off, lo = some ⟨b, off, none⟩ ∧ ∀ i, i < n → w.cell? ⟨b, off + i * 6, none⟩ = some (.int .u8 (X i).a) ∧ w.cell? ⟨b, off + i * 6 + 1, none⟩ = some (.int .i64 (X i).d) ∧ w.cell? ⟨b, off + i * 6 + 2, none⟩ = some (.int .i64 (X i).r) ∧ w.cell? ⟨b, off + i * 6 + 3, none⟩ = some (.int .i64 (X i).s) ∧ w.cell? ⟨b, off + i * 6 + 4, none⟩ = some (.int .i64 (X i).n) ∧ w.cell? ⟨b, off + i * 6 + 5, none⟩ = some (.slice (X i).po (X i).m (X i).pc)
theorem Sps.below {w w' : World} {lo : Option Addr} {n : Nat} {X : Nat → Sp} (h : Sps w lo n X) (ho : Below w.heap.size w w') : Sps w' lo n X := by
  refine ⟨fun hn => ?_⟩
  obtain ⟨b, off, e, hc⟩ := h.at_ hn
  refine ⟨b, off, e, fun i hi => ?_⟩
  obtain ⟨h0, h1, h2, h3, h4, h5⟩ := hc i hi
  exact ⟨held h0 ho, held h1 ho, held h2 ho, held h3 ho, held h4 ho, held h5 ho⟩
def IsB (e : Ending) : Prop := ∃ b, e = .returned (.bool b)
set_option maxHeartbeats 1000000 in
set_option maxRecDepth 100000 in
theorem long_any (w : World) (lo : Option Addr) (n cl : Nat) (X : Nat → Sp) (h : Sps w lo n X) (hn : n ≤ 9223372036854775807) : Calls Try.prog 10 #[.slice lo n cl] w fun e w' => IsB e ∧ w' = w := by
  have HS : Hid (Sps w lo n X) := h
  clear h
  go_enter Try.func10, Try.ntmps10
  go_wp2_with fail
  go_loop [3, 4] (fun x y => ∃ (t : Int) (i : Nat), i ≤ n ∧ i ≤ 60 ∧ x = .int .i64 t ∧ y = .int .i64 i) (fun _ y => 60 - (intOf y).toNat)
  case atStart => exact ⟨0, 0, Nat.zero_le _, Nat.zero_le _, rfl, rfl⟩
  case round =>
    obtain ⟨t, i, hi, h60, rfl, rfl⟩ := hrel
    by_cases hlt : i < n
    · obtain ⟨b, off, rfl, hc⟩ := HS.out.at_ (by omega)
      have c5 := (hc i hlt).2.2.2.2.2
      have i1 : (0 : Int) ≤ (i : Int) := by omega
      have i2 : (i : Int) < (n : Int) := by omega
      clear hc
      by_cases hl6 : i < 60
      · have i3 : (i : Int) < 60 := by omega
        go_wp2_with fail
        go_round
        case rel => exact ⟨_, i + 1, by omega, by omega, rfl, by go_num⟩
        case measure => simp [intOf]; omega
      · have i3 : ¬ (i : Int) < 60 := by omega
        go_wp2_with fail
        all_goals (go_ret; exact ⟨⟨_, rfl⟩, rfl⟩)
    · go_wp2_with fail
      all_goals (go_ret; exact ⟨⟨_, rfl⟩, rfl⟩)
end Go.Proofs.Ytdicogmjjboilaa
