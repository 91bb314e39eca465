/- Refs of one's own with a mark behind; whether they are as they were; bytes written over. -/
import Derived.Test.YtjncnojplkljnaaDsC
import Derived.Test.YtjncnojplkljnaaDeB
import Derived.Test.YtjncnojplkljnaaDsN
namespace Go.Proofs.Ytjncnojplkljnaa
open Go.RowKit

/-- Refs lent: n of them in a block of one's own, a mark behind. -/
def Lent (B : Nat) (w : World) (g n cap : Nat) (R V : Nat → Int) : Prop := OwR B w (some ⟨g, 0, none⟩) (n + 1) cap (apI n R (fun _ => 77)) (apI n V (fun _ => 0))
theorem Lent.below {B : Nat} {w w' : World} {g n cap : Nat} {R V : Nat → Int} (h : Lent B w g n cap R V) (hb : Below w.heap.size w w') : Lent B w' g n cap R V := OwR.below h hb
theorem Lent.stay {B C : Nat} {w w' : World} {g n cap : Nat} {R V : Nat → Int} (h : Lent B w g n cap R V) (hg : g < C) (hb : Below C w w') : Lent B w' g n cap R V := by
  refine ⟨h.1, ?_⟩
  rcases h.2 with h1 | ⟨g', cap', cur, h1, h2, h3, h4⟩
  · exact .inl h1
  · cases h1
    exact .inr ⟨g, cap, cur, rfl, h2, by rw [hb.block g hg]; exact h3, h4⟩
theorem Lent.rec {B : Nat} {w : World} {g n cap : Nat} {R V : Nat → Int} (h : Lent B w g n cap R V) : Rec w (some ⟨g, 0, none⟩) n cap R V := by
  have h1 := OwR.rec h
  refine ⟨fun hn => ⟨g, 0, rfl, fun i hi => ?_⟩, (fun e => by cases e), by have := h1.room; omega⟩
  obtain ⟨b, off, e, hc⟩ := h1.rd (by omega)
  cases e
  have := hc i (by omega)
  unfold apI at this
  rw [if_pos hi, if_pos hi] at this
  exact this
theorem Lent.mark {B : Nat} {w : World} {g n cap : Nat} {R V : Nat → Int} (h : Lent B w g n cap R V) : w.cell? ⟨g, n * 2, none⟩ = some (.int .i64 77) ∧ n + 1 ≤ cap ∧ g < w.heap.size := by
  have h1 := OwR.rec h
  obtain ⟨b, off, e, hc⟩ := h1.rd (by omega)
  cases e
  have := (hc n (by omega)).1
  unfold apI at this
  rw [if_neg (by omega), Nat.zero_add] at this
  exact ⟨this, h1.room, World.block_lt_of_cell? w _ this⟩
set_option maxHeartbeats 4000000 in
set_option maxRecDepth 100000 in
theorem lent_any (w : World) (ro : Option Addr) (n rc : Nat) (R V : Nat → Int) (hR : Rec w ro n rc R V) (hn : n ≤ 500) :
    Calls Try.prog 16 #[.slice ro n rc] w fun e w' => ∃ g cap, e = .returned (.slice (some ⟨g, 0, none⟩) n cap) ∧ Lent w.heap.size w' g n cap R V ∧ Below w.heap.size w w' := by
  have HR : Hid (Rec w ro n rc R V) := hR
  have hnil := owr_nil w.heap.size w (fun _ => 0) (fun _ => 0)
  have hrec := hR
  clear hR
  go_enter Try.func16, Try.ntmps16
  go_wp2_with (first
    | (at_builtin; refine wpList_append_refs (by rfl) (.tmp 4) (.tmp 5) (by rfl) w.heap.size 0 n 0 rc none ro _ _ R V (by rfl) (by rfl) hnil hrec (by omega) (Nat.le_refl _) ?_; intro uo uc wa ho hg; have HO : Hid (OwR w.heap.size wa uo n uc R V) := (by have h2 := ho; rw [Nat.zero_add] at h2; exact h2.congr fun i hi => ⟨by unfold apI; rw [if_neg (by omega), Nat.sub_zero], by unfold apI; rw [if_neg (by omega), Nat.sub_zero]⟩); have HB : Hid (Below w.heap.size w wa) := (Below.refl _ _).grown hg (Nat.le_refl _) (fun k e => by cases e); have HG : Hid (∀ g, (Value.slice uo n uc).ownBlock = some g → w.heap.size ≤ g) := ownr_ge HO.out; clear ho hg hnil hrec)
    | (at_builtin; refine wpList_append_refs (by rfl) (.tmp 7) (.tmp 9) (by rfl) w.heap.size n 1 uc 1 uo (some ⟨wa.heap.size, 0, none⟩) R V (fun _ => 77) (fun _ => 0) (by rfl) (by rfl) (HO.out.below (below_alloc _ _)) (rec_one wa 77 0) (by omega) (by have := HB.out.size; simp; omega) ?_; intro u2 c2 wb h2 g2; have HO2 : Hid (OwR w.heap.size wb u2 (n + 1) c2 (apI n R (fun _ => 77)) (apI n V (fun _ => 0))) := h2; have HB2 : Hid (Below w.heap.size w wb) := (HB.out.alloc HB.out.size _).grown g2 (by have := HB.out.size; simp; omega) HG.out; have hcap : n + 1 ≤ c2 := h2.rec.room; have hc1 : n ≤ c2 := (by omega); have hc2 : (n : Int) ≤ (c2 : Int) := (by omega); have hc3 : (0 : Int) ≤ (n : Int) := (by omega); obtain ⟨gg, rfl, _, _⟩ := h2.at_ (by omega); clear h2 g2))
  go_ret
  exact ⟨gg, c2, rfl, HO2.out, HB2.out⟩
set_option maxHeartbeats 4000000 in
set_option maxRecDepth 100000 in
theorem kept_any (w : World) (B g n cap : Nat) (ro : Option Addr) (rc : Nat) (R V : Nat → Int) (hL : Lent B w g n cap R V) (hR : RdR w ro n R V) (hn : n ≤ 500) :
    Calls Try.prog 21 #[.slice (some ⟨g, 0, none⟩) n cap, .slice ro n rc] w fun e w' => e = .returned (.bool true) ∧ Below w.heap.size w w' := by
  have HS := SameRefs_any w (some ⟨g, 0, none⟩) n cap ro rc R V hL.rec.rd hR (by omega)
  obtain ⟨hm, hcap, _⟩ := hL.mark
  have HM : Hid (w.cell? ⟨g, n * 2, none⟩ = some (.int .i64 77)) := hm
  have c1 : (n : Int) + 1 ≤ (cap : Int) := by omega
  have c2 : (0 : Int) ≤ (n : Int) + 1 := by omega
  have c3 : (0 : Int) ≤ (n : Int) := by omega
  have c4 : (n : Int) < (n : Int) + 1 := by omega
  have c5 : n + 1 ≤ cap := hcap
  clear hL hR hm
  go_enter Try.func21, Try.ntmps21
  go_wp2_with fail
  refine HS.mono ?_
  rintro e wa ⟨rfl, ha⟩
  have x := held HM.out ha
  go_wp2_with fail
  go_ret
  exact ⟨rfl, ha⟩
/-- The block of a slice. -/
def BlkOf (ao : Option Addr) (t : Nat) : Prop := ∃ a, ao = some a ∧ a.block = t
set_option maxHeartbeats 4000000 in
set_option maxRecDepth 100000 in
theorem spoil_any (w : World) (B : Nat) (ao : Option Addr) (n cap : Nat) (F : Nat → UInt8) (h : OwU B w ao n cap F) (hn : n ≤ 5000) :
    Calls Try.prog 20 #[.slice ao n cap] w fun e w' => e = .returned (.tuple #[]) ∧ Only (BlkOf ao) w w' := by
  by_cases h0 : n = 0
  · subst h0
    clear h
    go_enter Try.func20, Try.ntmps20
    go_wp2_with fail
    go_loopw [2] (fun x wr => x = .int .i64 0 ∧ Hid (Only (BlkOf ao) w wr)) (fun _ _ => 0)
    case atStart => exact ⟨rfl, Only.refl _ _⟩
    case round =>
      obtain ⟨rfl, hbel⟩ := hrel
      go_wp2
      go_end0
      exact ⟨rfl, hbel.out⟩
  · obtain ⟨g, rfl, _, _⟩ := h.at_ (by omega)
    have HX : Hid (∃ xs, w.ownsRow B 5 1 (.slice (some ⟨g, 0, none⟩) n cap) n xs ∧ ∀ x ∈ xs, ∃ z : Int, x = .int .u8 z) := ⟨byF n F, h, fun x hx => by simp only [byF, List.mem_map] at hx; obtain ⟨i, _, rfl⟩ := hx; exact ⟨_, rfl⟩⟩
    clear h h0
    go_enter Try.func20, Try.ntmps20
    go_wp2_with fail
    go_loopw [2] (fun x wr => ∃ i : Nat, i ≤ n ∧ x = .int .i64 (i : Int) ∧ Hid (∃ xs, wr.ownsRow B 5 1 (.slice (some ⟨g, 0, none⟩) n cap) n xs ∧ ∀ x ∈ xs, ∃ z : Int, x = .int .u8 z) ∧ Hid (Only (BlkOf (some ⟨g, 0, none⟩)) w wr)) (fun x _ => n - (intOf x).toNat)
    case atStart => exact ⟨0, Nat.zero_le _, rfl, HX, Only.refl _ _⟩
    case round =>
      obtain ⟨i, hi, rfl, hxs, hbel⟩ := hrel
      by_cases hlt : i < n
      · obtain ⟨xs, ho, hx⟩ := hxs.out
        have hl : xs.length = n := by have := ho.1; omega
        obtain ⟨z, hz⟩ := hx xs[i] (List.getElem_mem (by omega))
        have ck : wr.cell? ⟨g, i, none⟩ = some (.int .u8 z) := by rw [World.ownsRow.cellAt ho i (by omega), List.getElem?_eq_getElem (by omega), hz]
        have f := World.ownsRow.frozenAt ho
        have HY : Hid (∀ u : Int, ∃ xs, (wr.setCell ⟨g, i, none⟩ (.int .u8 u)).ownsRow B 5 1 (.slice (some ⟨g, 0, none⟩) n cap) n xs ∧ ∀ x ∈ xs, ∃ z : Int, x = .int .u8 z) := fun u => ⟨_, (World.ownsRow.stored ho i _).1, fun x hx2 => by
          rcases List.mem_or_eq_of_mem_set hx2 with h | h
          · exact hx x h
          · exact ⟨u, h⟩⟩
        have HZ : Hid (∀ u : Value, Only (BlkOf (some ⟨g, 0, none⟩)) w (wr.setCell ⟨g, i, none⟩ u)) := fun u => hbel.out.setCell (p := ⟨g, i, none⟩) ⟨⟨g, 0, none⟩, rfl, rfl⟩ u
        have i1 : (0 : Int) ≤ (i : Int) := by omega
        have i2 : (i : Int) < (n : Int) := by omega
        clear ho hx hl hz hxs
        go_wp2_with fail
        exact ⟨⟨i + 1, by omega, by go_num, HY.out _, HZ.out _⟩, by simp [intOf]; omega⟩
      · go_wp2
        go_end0
        exact ⟨rfl, hbel.out⟩
end Go.Proofs.Ytjncnojplkljnaa
