/- A list is written over, and behind its end. -/
import Derived.Test.YtmncbeabhicbhaaRwB
import Derived.Deep.AppendLies
namespace Go.Proofs.Ytmncbeabhicbhaa
open Go.RowKit

/-- Of what there was all but the blocks Y stays. -/
structure Only (Y : Nat → Prop) (w w' : World) : Prop where
  os : w'.os = w.os
  tape : w'.tape = w.tape
  output : w'.output = w.output
  size : w.heap.size ≤ w'.heap.size
  block : ∀ k, k < w.heap.size → ¬ Y k → w'.heap[k]? = w.heap[k]?
theorem Only.refl (Y : Nat → Prop) (w : World) : Only Y w w := ⟨rfl, rfl, rfl, Nat.le_refl _, fun _ _ _ => rfl⟩
theorem Only.set {Y : Nat → Prop} {w w' : World} (h : Only Y w w') {g : Nat} (hg : Y g ∨ w.heap.size ≤ g) (i : Nat) (v : Value) : Only Y w (w'.setCell ⟨g, i, none⟩ v) :=
  ⟨h.os, h.tape, h.output, by have := h.size; simp [World.setCell]; omega, fun k hk hy => (Below.heap_setCell _ _ _ _ (by
    rcases hg with hg | hg
    · intro e; exact hy (by first | exact e ▸ hg | (rw [← e]; exact hg))
    · simp; omega)).trans (h.block k hk hy)⟩
theorem Only.step {Y : Nat → Prop} {w w' w'' : World} (h : Only Y w w') (hb : Below w'.heap.size w' w'') : Only Y w w'' :=
  ⟨hb.os.trans h.os, hb.tape.trans h.tape, hb.output.trans h.output, Nat.le_trans h.size hb.size, fun k hk hy => (hb.block k (Nat.lt_of_lt_of_le hk h.size)).trans (h.block k hk hy)⟩
theorem Only.below {Y : Nat → Prop} {w w' : World} (h : Only Y w w') {B : Nat} (hB : B ≤ w.heap.size) (hY : ∀ k, Y k → B ≤ k) : Below B w w' :=
  ⟨h.os, h.tape, h.output, h.size, fun k hk => h.block k (by omega) (fun hy => by have := hY k hy; omega)⟩
def BlkOf (ao : Option Addr) (k : Nat) : Prop := ∃ a, ao = some a ∧ a.block = k
set_option maxHeartbeats 2000000 in
set_option maxRecDepth 100000 in
theorem spoil_any (w : World) (ao : Option Addr) (n cap B : Nat) (R : Nat → Int) (hn : n ≤ 400000) (h : Own B w ao n cap R) :
    Calls Try.prog 17 #[.slice ao n cap] w fun e w' => e = .returned (.tuple #[]) ∧ Only (BlkOf ao) w w' := by
  have HO : Hid (Own 0 w ao n cap R) := h.mono (Nat.zero_le B)
  obtain ⟨i0, hi, hi0, hi1, hi2⟩ := info_parts info3
  clear h
  go_enter Try.func17, Try.ntmps17
  go_wp2_with fail
  go_loopw [2] (fun x wr => ∃ i : Nat, i ≤ n ∧ x = .int .i64 (i : Int) ∧ Hid (∃ S, Own 0 wr ao n cap S) ∧ Hid (Only (BlkOf ao) w wr)) (fun x _ => n - (intOf x).toNat)
  case atStart => exact ⟨0, Nat.zero_le _, rfl, ⟨_, HO.out⟩, Only.refl _ _⟩
  case round =>
    obtain ⟨i, hii, rfl, hown, hkeep⟩ := hrel
    by_cases hlt : i < n
    · obtain ⟨S, hS⟩ := hown.out
      obtain ⟨g, rfl, h1, _⟩ := hS.at_ (by omega)
      have d1 := hS.cell hlt
      have z1 := hS.free i
      have HO2 : Hid (∃ S, Own 0 (wr.setCell ⟨g, i, none⟩ (.int .i64 (-9))) (some ⟨g, 0, none⟩) n cap S) := ⟨_, hS.set i (-9)⟩
      have HK2 : Hid (Only (BlkOf (some ⟨g, 0, none⟩)) w (wr.setCell ⟨g, i, none⟩ (.int .i64 (-9)))) := hkeep.out.set (.inl ⟨⟨g, 0, none⟩, rfl, rfl⟩) i _
      have i1 : (0 : Int) ≤ (i : Int) := by omega
      have i2 : (i : Int) < (n : Int) := by omega
      clear hS hown h1
      go_wp2_with fail
      go_roundw
      case rel => exact ⟨i + 1, by omega, by go_num, HO2.out, HK2.out⟩
      case measure => simp [intOf]; omega
    · obtain ⟨S, hS⟩ := hown.out
      obtain ⟨XS, hXS⟩ : ∃ XS, XS = zOf n S := ⟨_, rfl⟩
      have HOW : Hid (∀ o, (wr.alloc o).ownsRow 0 3 1 (.slice ao n cap) n XS) := fun o => by
        rw [hXS]; exact World.ownsRow.alloc hS o
      have HFR : Hid (∀ g6 w6, wr.alloc (.cells #[.int .i64 (-1), .int .i64 (-2), .int .i64 (-3), .int .i64 (-4)] 3) |>.grownBy w6 (Value.slice ao n cap).ownBlock → ((Value.slice ao n cap).ownBlock = some g6 ∨ g6 = wr.heap.size + 1) → Only (BlkOf ao) w (w6.setCell ⟨g6, 0, none⟩ (.int .i64 (-9)))) := fun g6 w6 hgr hor => by
        have h1 : Only (BlkOf ao) w (wr.alloc (.cells #[.int .i64 (-1), .int .i64 (-2), .int .i64 (-3), .int .i64 (-4)] 3)) := hkeep.out.step (below_alloc _ _)
        have hz := hkeep.out.size
        have h2 : Only (BlkOf ao) w w6 := by
          refine ⟨?_, ?_, ?_, ?_, fun k hk hy => ?_⟩
          · exact hgr.os.trans h1.os
          · exact hgr.tape.trans h1.tape
          · exact hgr.output.trans h1.output
          · exact Nat.le_trans h1.size hgr.size
          · refine (hgr.block k (by simp; omega) (fun e => hy ?_)).trans (h1.block k hk hy)
            cases ao with
            | none => simp [Value.ownBlock] at e
            | some a => exact ⟨a, rfl, by simp [Value.ownBlock] at e; exact e.symm⟩
        refine h2.set ?_ 0 _
        rcases hor with e | rfl
        · cases ao with
          | none => simp [Value.ownBlock] at e
          | some a => exact .inl ⟨a, rfl, by simpa [Value.ownBlock] using e⟩
        · exact .inr (by omega)
      clear hS hown hkeep hXS
      go_wp2_with (at_builtin; refine wpList_append_lies _ (by rfl) (.tmp 13) (.tmp 14) 26 (by rfl) 0 3 i0 (.int .i64 0) 1 8 Try.underlying26 hi hi0 hi1 hi2 (by rfl) (by decide) (.slice ao n cap) n XS (by rfl) (HOW.out _) ⟨wr.heap.size, 0, none⟩ 4 4 [.int .i64 (-1), .int .i64 (-2), .int .i64 (-3), .int .i64 (-4)] (by rfl) (by rfl) (World.news_of_block (heap_alloc_new wr _)) (by simp [Value.oneCell']) (by decide) (by unfold maxLen; omega) (by omega) (Nat.zero_le _) (wr.heap.size + 1) (by simp) ?_; intro g6 cap6 w6 hown6 hgrow6 hor hlt6
                   have HFX : Hid (Only (BlkOf ao) w (w6.setCell ⟨g6, 0, none⟩ (.int .i64 (-9)))) := HFR.out g6 w6 hgrow6 hor
                   have hfz := World.ownsRow.frozenAt hown6 0
                   obtain ⟨v0, hv0⟩ : ∃ v0, w6.cell? ⟨g6, 0, none⟩ = some v0 := (by
                     have h1 := World.ownsRow.cellAt hown6 0 (by omega)
                     have h2 := hown6.1
                     rw [List.getElem?_eq_getElem (by omega)] at h1
                     exact ⟨_, h1⟩)
                   clear hown6 hgrow6 hor)
      go_end0
      exact ⟨rfl, HFX.out⟩
end Go.Proofs.Ytmncbeabhicbhaa
