/- Refs appended; refs read of bytes, by the document. -/
import Derived.Test.YtjncnojplkljnaaDeA
namespace Go.Proofs.Ytjncnojplkljnaa
open Go.RowKit

theorem owns_drew {w : World} {base e size n : Nat} {v : Value} {xs : List Value} (h : w.ownsRow base e size v n xs) : w.drew.ownsRow base e size v n xs := h
theorem news_drew (w : World) (xs : Array Value) (e : TypeId) : ∀ (j : Nat) u, xs.toList[j]? = some u → (w.alloc (.cells xs e)).drew.cell? ((⟨w.heap.size, 0, none⟩ : Addr).add j) = some u := fun j u h => World.news_of_block (w := (w.alloc (.cells xs e)).drew) (heap_alloc_new w (.cells xs e)) j u h
set_option maxHeartbeats 4000000 in
set_option maxRecDepth 100000 in
theorem read_any (w : World) (ao : Option Addr) (n cp m : Nat) (F : Nat → UInt8) (h : Bec w ao n cp F) (hm : 6 * m ≤ n) (hm2 : m ≤ 1000) :
    Calls Try.prog 49 #[.slice ao n cp, .int .i64 (m : Int)] w fun e w' => ∃ uo uc, e = .returned (.slice uo m uc) ∧ OwR w.heap.size w' uo m uc (rdR F 0) (rdV F 0) ∧ Below w.heap.size w w' := by
  have HX : Hid (Bec w ao n cp F) := h
  have hroom := h.room
  clear h
  go_enter Try.func49, Try.ntmps49
  go_wp2_with fail
  go_loopw [5, 6] (fun y x wr => ∃ i : Nat, i ≤ m ∧ x = .int .i64 (i : Int) ∧ (∃ uo uc, y = .slice uo i uc ∧ Hid (OwR w.heap.size wr uo i uc (rdR F 0) (rdV F 0))) ∧ Hid (Below w.heap.size w wr)) (fun _ x _ => m - (intOf x).toNat)
  case atStart => exact ⟨0, Nat.zero_le _, rfl, ⟨none, 0, rfl, owr_nil _ _ _ _⟩, Below.refl _ _⟩
  case round =>
    obtain ⟨i, hi, rfl, ⟨uo, uc, rfl, hown⟩, hbel⟩ := hrel
    by_cases hlt : i < m
    · obtain ⟨b, off, rfl, hc⟩ := (HX.out.below hbel.out).rd (by omega)
      have C1 := worth_any wr.drew (some ⟨b, off + 6 * i, none⟩) 2 (cp - 6 * i) (fun j => F (6 * i + j)) (fun _ => ⟨_, _, rfl, fun j hj => by rw [Nat.add_assoc]; exact hc (6 * i + j) (by omega)⟩) (by omega)
      have C2 := worth_any wr.drew (some ⟨b, off + (6 * i + 2), none⟩) 4 (cp - (6 * i + 2)) (fun j => F (6 * i + 2 + j)) (fun _ => ⟨_, _, rfl, fun j hj => by rw [Nat.add_assoc]; exact hc (6 * i + 2 + j) (by omega)⟩) (by omega)
      rw [show nm (fun j => F (6 * i + j)) 0 2 = nm F (6 * i) 2 from nm_move F (6 * i) 0 2] at C1
      rw [show nm (fun j => F (6 * i + 2 + j)) 0 4 = nm F (6 * i + 2) 4 from nm_move F (6 * i + 2) 0 4] at C2
      have HRV : Hid (rdR F 0 i = ((nm F (6 * i) 2 : Nat) : Int) ∧ rdV F 0 i = ((nm F (6 * i + 2) 4 : Nat) : Int)) := by unfold rdR rdV; rw [Nat.zero_add]; exact ⟨rfl, rfl⟩
      generalize nm F (6 * i) 2 = a at *
      generalize nm F (6 * i + 2) 4 = v at *
      have w1 : IntKind.i64.wrap (6 * (i : Int)) = 6 * (i : Int) := by rw [IntKind.wrap_i64]; omega
      have w2 : IntKind.i64.wrap (6 * (i : Int) + 2) = 6 * (i : Int) + 2 := by rw [IntKind.wrap_i64]; omega
      have w3 : IntKind.i64.wrap (6 * (i : Int) + 6) = 6 * (i : Int) + 6 := by rw [IntKind.wrap_i64]; omega
      have c1 : (0 : Int) ≤ 6 * (i : Int) := by omega
      have c2 : 6 * (i : Int) ≤ 6 * (i : Int) + 2 := by omega
      have c3 : 6 * (i : Int) + 2 ≤ (cp : Int) := by omega
      have c4 : (0 : Int) ≤ 6 * (i : Int) + 2 := by omega
      have c5 : 6 * (i : Int) + 2 ≤ 6 * (i : Int) + 6 := by omega
      have c6 : 6 * (i : Int) + 6 ≤ (cp : Int) := by omega
      have c7 : (0 : Int) ≤ 6 * (i : Int) + 6 := by omega
      have t1 : (6 * (i : Int)).toNat = 6 * i := by omega
      have t2 : (6 * (i : Int) + 2).toNat = 6 * i + 2 := by omega
      have t3 : (6 * (i : Int) + 6).toNat = 6 * i + 6 := by omega
      have n1 : ¬ cp = 6 * i := by omega
      have n2 : ¬ cp = 6 * i + 2 := by omega
      have HV : Hid (wr.ownsRow w.heap.size 27 2 (.slice uo i uc) i (rvl (rdR F 0) (rdV F 0) i)) := hown.out
      obtain ⟨XS, hXS⟩ : ∃ X, X = rvl (rdR F 0) (rdV F 0) i := ⟨_, rfl⟩
      rw [← hXS] at HV
      have HXS : Hid (rvl (rdR F 0) (rdV F 0) (i + 1) = XS ++ [.int .i64 (a : Int), .int .i64 (v : Int)]) := by show _ = _; rw [rvl, ← hXS, HRV.out.1, HRV.out.2]
      have hws : w.heap.size ≤ wr.heap.size := hbel.out.size
      obtain ⟨j0, hj, hj0, hj1, hj2⟩ := info_parts info27
      clear hc hXS hown HRV
      go_wp2_with fail
      go_region_held3 (fun _ => True) (trivial) ((first
        | (go_at_call 47; (with_reducible show Calls Try.prog 47 #[.slice (some ⟨b, off + 6 * i, none⟩) 2 (cp - 6 * i)] _ _); refine C1.mono ?_; rintro e w' ⟨rfl, hw'⟩; obtain rfl := hw'.symm)
        | (go_at_call 47; (with_reducible show Calls Try.prog 47 #[.slice (some ⟨b, off + (6 * i + 2), none⟩) 4 (cp - (6 * i + 2))] _ _); refine C2.mono ?_; rintro e w' ⟨rfl, hw'⟩; obtain rfl := hw'.symm)
        | ((with_reducible show if Region.wanted { dst := some 32, op := _, type := _, pos := _, after := _, guard := _ } _ = true then _ else _); refine step_append_lies _ (by rfl) (.tmp 12) (.tmp 31) 28 (by rfl) w.heap.size 27 j0 (.agg #[.int .i64 0, .int .i64 0]) 2 16 Try.underlying28 hj hj0 hj1 hj2 (by rfl) (by decide) (.slice uo i uc) i XS (by simp [Act.eval]) (owns_drew (HV.out.alloc _)) ⟨wr.heap.size, 0, none⟩ 1 1 [.int .i64 (a : Int), .int .i64 (v : Int)] (by simp [Act.eval]) (by rfl) (news_drew wr #[.int .i64 (a : Int), .int .i64 (v : Int)] 27) (by simp [Value.oneCell']) (by decide) (by unfold maxLen; omega) (by omega) (by show _ ≤ (wr.alloc _).heap.size; simp; omega) (wr.heap.size + 1) (by show (wr.alloc _).heap.size = _; simp) ?_; intro g2 cap2 w2 hown2 hgrow2 _ _; have HB2 : Hid (Below w.heap.size w w2) := ((hbel.out.alloc (by omega) _).drew).grown hgrow2 (by show _ ≤ (wr.alloc _).heap.size; simp; omega) (fun r hr => (HV.out.lt r hr).1))))
      have HV2 : Hid (OwR w.heap.size w2 (some ⟨g2, 0, none⟩) (i + 1) cap2 (rdR F 0) (rdV F 0)) := by show w2.ownsRow _ _ _ _ _ _; rw [HXS.out]; exact hown2
      clear hown2 hgrow2
      go_wp2_with fail
      exact ⟨⟨i + 1, by omega, by go_num, ⟨_, _, rfl, HV2⟩, HB2⟩, by simp [intOf]; omega⟩
    · obtain rfl : i = m := by omega
      go_wp2
      go_ret
      exact ⟨uo, uc, rfl, hown.out, hbel.out⟩
end Go.Proofs.Ytjncnojplkljnaa
