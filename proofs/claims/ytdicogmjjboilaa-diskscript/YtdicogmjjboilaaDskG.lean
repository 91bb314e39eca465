/- All wipes forgotten. -/
import Derived.Test.YtdicogmjjboilaaDskE
namespace Go.Proofs.Ytdicogmjjboilaa
open Go.RowKit

set_option maxHeartbeats 1000000 in
set_option maxRecDepth 100000 in
theorem whole_d (w : World) (g : Nat) (k r c q : Int) (sl : Value) (gone : Nat → Bool) (off cut : Bool) (left wr : Int) (hb : Blk w g 71 (dkv k r c q sl gone off cut left wr)) :
    Calls Try.prog 54 #[.pointer (some ⟨g, 0, none⟩)] w fun e w' => e = .returned (.tuple #[]) ∧ Blk w' g 71 (dkv k r c q sl (fun _ => false) off cut left wr) ∧ Only (fun x => x = g) w w' ∧ w'.heap.size = w.heap.size := by
  have f := hb.free
  have cs := fun i hi => hb.cell (dkv_gone (k := k) (r := r) (c := c) (q := q) (sl := sl) (gone := gone) (off := off) (cut := cut) (left := left) (wr := wr) i hi)
  have c5 := cs 0 (by decide)
  have c6 := cs 1 (by decide)
  have c7 := cs 2 (by decide)
  have c8 := cs 3 (by decide)
  have c9 := cs 4 (by decide)
  have c10 := cs 5 (by decide)
  have c11 := cs 6 (by decide)
  have c12 := cs 7 (by decide)
  have c13 := cs 8 (by decide)
  have c14 := cs 9 (by decide)
  have c15 := cs 10 (by decide)
  have c16 := cs 11 (by decide)
  have c17 := cs 12 (by decide)
  have c18 := cs 13 (by decide)
  have c19 := cs 14 (by decide)
  have c20 := cs 15 (by decide)
  simp only [Nat.reduceAdd] at c5 c6 c7 c8 c9 c10 c11 c12 c13 c14 c15 c16 c17 c18 c19 c20
  have HB : Hid (Blk w g 71 (dkv k r c q sl gone off cut left wr)) := hb
  clear hb cs
  go_enter Try.func54, Try.ntmps54
  go_wp2_with fail
  refine bodyPost_end (results_none rfl _ _ _) rfl ?_
  refine ⟨rfl, ?_, ?_, by simp [World.setCell]⟩
  · exact ((((((((((((((((HB.out.set 5 _).set 6 _).set 7 _).set 8 _).set 9 _).set 10 _).set 11 _).set 12 _).set 13 _).set 14 _).set 15 _).set 16 _).set 17 _).set 18 _).set 19 _).set 20 _)
  · have hx : ∀ (v : World) i u, Only (fun x => x = g) w v → Only (fun x => x = g) w (v.setCell ⟨g, i, none⟩ u) := fun v i u h => Only.setCell (X := fun x => x = g) (p := ⟨g, i, none⟩) h rfl u
    exact hx _ _ _ (hx _ _ _ (hx _ _ _ (hx _ _ _ (hx _ _ _ (hx _ _ _ (hx _ _ _ (hx _ _ _ (hx _ _ _ (hx _ _ _ (hx _ _ _ (hx _ _ _ (hx _ _ _ (hx _ _ _ (hx _ _ _ (hx _ _ _ (Only.refl _ _))))))))))))))))
end Go.Proofs.Ytdicogmjjboilaa
