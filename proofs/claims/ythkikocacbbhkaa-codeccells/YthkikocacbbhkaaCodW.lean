/- The walk of the statement that coding and decoding of any cells come to what the document says, and nothing that is handed in changes. -/
import Derived.Test.YthkikocacbbhkaaCodR
namespace Go.Proofs.Ythkikocacbbhkaa
open Go.RowKit

set_option maxHeartbeats 2000000 in
set_option maxRecDepth 100000 in
/-- Rows are written over: all else stays. -/
theorem spoil_rows (w : World) (B T l cl rows cols : Nat) (G U : Nat → Nat) (H : M) (hr : rows ≤ 1000) (hc : cols ≤ 100000) (hlst : ∃ h : Nat → Value, w.rowIs l 23 cl h ∧ ∀ i, i < rows → h i = .slice (some ⟨G i, 0, none⟩) cols (U i)) (hrows : ∀ i, i < rows → Own w (G i) cols (U i) (H i)) (hG : (∀ i, i < rows → B ≤ G i ∧ G i < T ∧ G i ≠ l) ∧ ∀ i j, i < rows → j < rows → i ≠ j → G i ≠ G j) (hroom : rows ≤ cl) :
    Calls Try.prog 20 #[.slice (some ⟨l, 0, none⟩) rows cl] w fun e w' => e = .returned (.tuple #[]) ∧ Keeps B T w w' := by
  obtain ⟨i0, hi, hz0, hz1, hz2⟩ := info_parts info5'
  have HM : Hid ((∃ h : Nat → Value, w.rowIs l 23 cl h ∧ ∀ i, i < rows → h i = .slice (some ⟨G i, 0, none⟩) cols (U i)) ∧ ∀ i, i < rows → Own w (G i) cols (U i) (H i)) := ⟨hlst, hrows⟩
  have HG : Hid ((∀ i, i < rows → B ≤ G i ∧ G i < T ∧ G i ≠ l) ∧ ∀ i j, i < rows → j < rows → i ≠ j → G i ≠ G j) := hG
  clear hlst hrows hG
  go_enter Try.func20, Try.ntmps20
  go_wp2
  go_loopw [2] (fun i wr => ∃ k : Nat, k ≤ rows ∧ i = .int .i64 k ∧ Hid (Rest wr B T l cl rows cols k G U H) ∧ Hid (Keeps B T w wr)) (fun i _ => rows - (intOf i).toNat)
  case atStart => exact ⟨0, Nat.zero_le _, rfl, ⟨HM.out.1, fun i _ hi => HM.out.2 i hi⟩, Keeps.refl _ _ _⟩
  case round =>
    obtain ⟨k, hk, rfl, hrest, hkeep⟩ := hrel
    by_cases hlt : k < rows
    · obtain ⟨c, hrow, hc'⟩ := hrest.out.lst
      have c1 := hrow.cell (i := k) (by omega)
      rw [hc' k hlt] at c1
      have HO : Hid (Own wr (G k) cols (U k) (H k)) := hrest.out.row k (Nat.le_refl _) hlt
      have hg1 := (HG.out.1 k hlt).1
      have hg2 := (HG.out.1 k hlt).2.1
      have hg3 := (HG.out.1 k hlt).2.2
      clear hrow hc'
      have i1 : (0 : Int) ≤ (k : Int) := by omega
      have i2 : (k : Int) < (rows : Int) := by omega
      obtain ⟨wm, rfl⟩ : ∃ x, x = wr := ⟨wr, rfl⟩
      go_wp2
      go_loopw [3] (fun i wx => ∃ j : Nat, j ≤ cols ∧ i = .int .i64 j ∧ Hid (Own wx (G k) cols (U k) (upto j (fun y => (K.add (H k y) (K.of 85))) (H k))) ∧ Hid (Keeps (G k) (G k + 1) wm wx)) (fun i _ => cols - (intOf i).toNat)
      case atStart => exact ⟨0, Nat.zero_le _, rfl, by rw [upto_zero]; exact HO.out, Keeps.refl _ _ _⟩
      case round =>
        obtain ⟨j, hj, rfl, hown, hk2⟩ := hrel
        have d1 : wr.cell? ⟨l, k, none⟩ = some (.slice (some ⟨G k, 0, none⟩) cols (U k)) := hk2.out.cell c1 (by simp only; omega)
        by_cases hjc : j < cols
        · have d2 : wr.cell? ⟨G k, j, none⟩ = some (.int .u8 ((H k j).n : Int)) := by have := hown.out.cell hjc; rwa [upto_at] at this
          have z2 := hown.out.frozen j
          have HX : Hid (bits .xor .u8 ((H k j).n : Int) 85 = ((((K.add (H k j) (K.of 85))).n : Nat) : Int)) := xor_k (H k j) (K.of 85)
          have i3 : (0 : Int) ≤ (j : Int) := by omega
          have i4 : (j : Int) < (cols : Int) := by omega
          go_wp2
          refine wp_region_still_tail 14 (by kernel_rfl) (by kernel_rfl) ?_
          simp only [List.take_succ_cons, List.take_zero, List.drop_succ_cons, List.drop_zero]
          repeat still_step
          refine wpStill_nil ?_
          go_wp2
          go_roundw
          case rel => exact ⟨j + 1, by omega, by go_num, by rw [HX.out]; exact (hown.out.store (f := fun y => (K.add (H k y) (K.of 85)))).below (below_drew _ _), (hk2.out.setCell (Nat.le_refl _) (by omega) j _).drew⟩
          case measure => simp [intOf]; omega
        · obtain rfl : j = cols := by omega
          obtain ⟨f, hf⟩ : ∃ f : Nat → K, f = fun y => (K.add (H k y) (K.of 85)) := ⟨_, rfl⟩
          have HOF : Hid (Own wr (G k) j (U k) f) := by rw [hf]; exact hown.out.all
          have HKW : Hid (Keeps B T w wr) := hkeep.out.trans (hk2.out.mono hg1 hg2)
          have hws := HKW.out.size
          have HRS : Hid (Rest wr B T l cl rows j (k + 1) G U H) := by
            obtain ⟨c, hrow, hc'⟩ := hrest.out.lst
            refine ⟨⟨c, hrow.of_block (hk2.out.block l hrow.lt (by omega)), hc'⟩, fun i h1 h2 => ?_⟩
            have := HG.out.2 i k h2 hlt (by omega)
            exact (hrest.out.row i (by omega) h2).keeps hk2.out (by omega)
          obtain ⟨XS, hXS⟩ : ∃ XS, XS = cellsOf j f := ⟨_, rfl⟩
          have HXS : Hid (XS = cellsOf j f) := hXS
          have HOW : Hid (∀ o, (wr.alloc o).ownsRow (G k) 5 1 (.slice (some ⟨G k, 0, none⟩) j (U k)) j XS) := fun o => by rw [hXS]; exact (own_owns HOF.out).alloc o
          have hgl : G k < wr.heap.size := HOF.out.lt
          clear hf hXS hown hk2
          go_wp2_with (at_builtin; refine wpList_append_lies _ (by rfl) (.tmp 37) (.tmp 38) 23 (by rfl) (G k) 5 i0 (.int .u8 0) 1 1 Try.underlying23 hi hz0 hz1 hz2 (by rfl) (by decide) (.slice (some ⟨G k, 0, none⟩) j (U k)) j XS (by rfl) (HOW.out _) ⟨wr.heap.size, 0, none⟩ 8 8 eight (by rfl) (by rfl) (World.news_of_block (heap_alloc_new wr _)) (by simp [eight, Value.oneCell']) (by decide) (by unfold maxLen; omega) (by omega) (by simp; omega) (wr.heap.size + 1) (by simp) ?_; intro g5 cap5 w5 hown5 hgrow5 hwh5 hlt5
                       obtain ⟨v5, c5, z5⟩ := owns_first hown5 (by omega)
                       have HG5 : Hid ((wr.alloc (.cells #[.int .u8 1, .int .u8 2, .int .u8 3, .int .u8 4, .int .u8 5, .int .u8 6, .int .u8 7, .int .u8 8] 5)).grownBy w5 (some (G k))) := hgrow5
                       have HW5 : Hid (g5 = G k ∨ g5 = wr.heap.size + 1) := (by rcases hwh5 with e | e; exact .inl (Option.some.inj e).symm; exact .inr e)
                       clear hown5 hgrow5 hwh5)
          have HK6 : Hid (Keeps B T w (w5.setCell ⟨g5, 0, none⟩ (.int .u8 9))) := by
            refine Keeps.setNew ⟨HG5.out.os.trans HKW.out.os, HG5.out.tape.trans HKW.out.tape, HG5.out.output.trans HKW.out.output, Nat.le_trans hws (Nat.le_trans (by simp) HG5.out.size), fun x hx hb => ?_⟩ (by have := HW5.out; omega) 0 _
            rw [HG5.out.block x (by simp; omega) (fun e => by have := Option.some.inj e; omega), Below.heap_alloc _ _ _ (by omega)]
            exact HKW.out.block x hx hb
          have HR6 : Hid (Rest (w5.setCell ⟨g5, 0, none⟩ (.int .u8 9)) B T l cl rows j (k + 1) G U H) := by
            have bl : ∀ x, x < wr.heap.size → x ≠ G k → (w5.setCell ⟨g5, 0, none⟩ (.int .u8 9)).heap[x]? = wr.heap[x]? := fun x hx hne => by
              have := HW5.out
              rw [Below.heap_setCell _ _ _ _ (by simp; omega), HG5.out.block x (by simp; omega) (fun e => hne (Option.some.inj e)), Below.heap_alloc _ _ _ hx]
            obtain ⟨c, hrow, hc'⟩ := HRS.out.lst
            refine ⟨⟨c, hrow.of_block (bl l hrow.lt (Ne.symm hg3)), hc'⟩, fun i h1 h2 => ?_⟩
            have hr := HRS.out.row i h1 h2
            exact hr.of_block (bl (G i) hr.lt (HG.out.2 i k h2 hlt (by omega)))
          go_wp2_with fail
          go_roundw
          case rel => exact ⟨k + 1, by omega, by go_num, HR6.out, HK6.out⟩
          case measure => simp [intOf]; omega
    · go_wp2
      go_end0
      exact ⟨rfl, hkeep.out⟩

/-- Bytes that were answered, in a list of one, are written over. -/
theorem spoil_row (w : World) (B T n cap : Nat) (ao : Option Addr) (f : Nat → K) (hn : n ≤ 1000) (h : RowSol w B T ao n cap f) (hT : T ≤ w.heap.size) :
    Calls Try.prog 20 #[.slice (some ⟨w.heap.size, 0, none⟩) 1 1] (w.alloc (.cells #[.slice ao n cap] 23)) fun e w' => e = .returned (.tuple #[]) ∧ Keeps B T w w' := by
  rcases h with ⟨rfl, rfl, rfl⟩ | ⟨g, rfl, hB, hg, ho⟩
  · refine (spoil_nil _ w.heap.size (by rw [cell_of_row _ _ _ _ _ _ (heap_alloc_new w _)]; rfl)).mono ?_
    rintro e w' ⟨rfl, hb⟩
    exact ⟨rfl, Keeps.of_below (below_step (below_alloc w _) hb (by simp))⟩
  · refine (spoil_rows (w.alloc (.cells #[.slice (some ⟨g, 0, none⟩) n cap] 23)) B T w.heap.size 1 1 n (fun _ => g) (fun _ => cap) (fun _ => f) (by omega) (by omega) ⟨fun _ => .slice (some ⟨g, 0, none⟩) n cap, ⟨_, heap_alloc_new w _, rfl, fun i hi => ?_⟩, fun i _ => rfl⟩ (fun i _ => ho.alloc _) ⟨fun i _ => ⟨hB, hg, by omega⟩, fun i j hi hj hne => absurd hne (by omega)⟩ (Nat.le_refl _)).mono ?_
    · obtain rfl : i = 0 := by omega
      rfl
    · rintro e w' ⟨rfl, hk⟩
      exact ⟨rfl, ((Keeps.refl B T w).alloc _).trans hk⟩

theorem same_k (w : World) (ao bo : Option Addr) (ll ca cb : Nat) (A B : Nat → Option Addr) (C D L : Nat → Nat) (H : M) (hll : ll ≤ 1000000) (ha : Lst w ao ll A C L H) (hb : Lst w bo ll B D L H) :
    Calls Try.prog 19 #[.slice ao ll ca, .slice bo ll cb] w fun e w' => e = .returned (.bool true) ∧ Below w.heap.size w w' := Ker.sameAll_any w ao bo ll ca cb A B C D L _ hll (lst_ker ha) (lst_ker hb)
/-- Cells, or an error. -/
def OutA (w : World) (n : Nat) (err : Int) (m : Nat) (H : M) (e : Ending) (w' : World) : Prop :=
  ∃ ao cap T U, e = .returned (.tuple #[.slice ao n cap, .int .i64 err]) ∧ Copied w' w.heap.size n (.slice ao n cap) T (fun _ => m) U H ∧ Below w.heap.size w w'
def RowA (w : World) (n : Nat) (err : Int) (f : Nat → K) (e : Ending) (w' : World) : Prop :=
  ∃ ao cap, e = .returned (.tuple #[.slice ao n cap, .int .i64 err]) ∧ RowSol w' w.heap.size w'.heap.size ao n cap f ∧ Below w.heap.size w w'
theorem owns_keeps {w w' : World} {base e n B T : Nat} {v : Value} {xs : List Value} (h : w.ownsRow base e 1 v n xs) (hk : Keeps B T w w') (hT : T ≤ base) : w'.ownsRow base e 1 v n xs := by
  refine ⟨h.1, ?_⟩
  rcases h.2 with h1 | ⟨g, cap, cur, h1, h2, h3, h4⟩
  · exact .inl h1
  · exact .inr ⟨g, cap, cur, h1, h2, (hk.block g (lt_of_block h3) (.inr (by omega))).trans h3, h4⟩
theorem Copied.later {w w' : World} {base k B T : Nat} {v : Value} {A : Nat → Option Addr} {L U : Nat → Nat} {H : M} (h : Copied w base k v A L U H) (hk : Keeps B T w w') (hT : T ≤ base) : Copied w' base k v A L U H :=
  ⟨owns_keeps h.out hk hT, fun i hi => owns_keeps (h.row i hi) hk hT, h.apart⟩
theorem RowSol.below {w w' : World} {B T : Nat} {ao : Option Addr} {n cap : Nat} {f : Nat → K} (h : RowSol w B T ao n cap f) (hb : Below w.heap.size w w') : RowSol w' B T ao n cap f := by
  rcases h with h | ⟨g, e, h1, h2, ho⟩
  · exact .inl h
  · exact .inr ⟨g, e, h1, h2, ho.below hb⟩
theorem RowSol.keeps {w w' : World} {B T B' T' : Nat} {ao : Option Addr} {n cap : Nat} {f : Nat → K} (h : RowSol w B T ao n cap f) (hk : Keeps B' T' w w') (ho' : T ≤ B' ∨ T' ≤ B) : RowSol w' B T ao n cap f := by
  rcases h with h | ⟨g, e, h1, h2, ho⟩
  · exact .inl h
  · exact .inr ⟨g, e, h1, h2, ho.keeps hk (by omega)⟩
theorem RowSol.rd {w : World} {B T : Nat} {ao : Option Addr} {n cap : Nat} {f : Nat → K} (h : RowSol w B T ao n cap f) : Rd w ao n f := by
  rcases h with ⟨rfl, rfl, _⟩ | ⟨g, rfl, _, _, ho⟩
  · exact rd_none _ _
  · exact ho.rd
/-- Where the cells of an answer lie, once they are there. -/
def At_ (w : World) (B T : Nat) (ao : Option Addr) (n cap m : Nat) (U : Nat → Nat) (H : M) : Prop := 0 < n → ∃ l G, ao = some ⟨l, 0, none⟩ ∧ Mat w B T l cap n m G U H
theorem At_.below {w w' : World} {B T : Nat} {ao : Option Addr} {n cap m : Nat} {U : Nat → Nat} {H : M} (h : At_ w B T ao n cap m U H) (hb : Below w.heap.size w w') : At_ w' B T ao n cap m U H := fun hn => by
  obtain ⟨l, G, e, hm⟩ := h hn
  exact ⟨l, G, e, hm.below hb⟩
theorem At_.keeps {w w' : World} {B T B' T' : Nat} {ao : Option Addr} {n cap m : Nat} {U : Nat → Nat} {H : M} (h : At_ w B T ao n cap m U H) (hk : Keeps B' T' w w') (ho : T ≤ B' ∨ T' ≤ B) : At_ w' B T ao n cap m U H := fun hn => by
  obtain ⟨l, G, e, hm⟩ := h hn
  exact ⟨l, G, e, hm.keeps hk ho⟩
theorem at_of {w : World} {B n m cap : Nat} {ao : Option Addr} {T : Nat → Option Addr} {U : Nat → Nat} {H : M} (h : Copied w B n (.slice ao n cap) T (fun _ => m) U H) (hm : 0 < n → 1 ≤ m) : At_ w B w.heap.size ao n cap m U H := fun hn => Copied.mat h (fun _ _ => rfl) (hm hn) hn

set_option maxHeartbeats 4000000 in
set_option maxRecDepth 100000 in
theorem cells_core (w : World) (k r c : Int) (lo : Option Addr) (ll cl : Nat) (A : Nat → Option Addr) (C L : Nat → Nat) (H : M) (nR nE nD m : Nat) (eR eE eD eV : Int) (bV : Bool) (fR : Nat → K) (PH DH : M)
    (hl : Lst w lo ll A C L H) (hnil : ∀ i, i < ll → A i = none → L i = 0 ∧ C i = 0) (hcap : ll ≤ cl) (hR : nR ≤ 100) (hE : nE ≤ 100) (hD : nD ≤ 100) (hEm : 0 < nE → 1 ≤ m ∧ m ≤ 65536) (hDm : 0 < nD → 1 ≤ m ∧ m ≤ 65536)
    (H14 : ∀ w, Calls Try.prog 14 #[.int .i64 k, .int .i64 r, .int .i64 c] w (RowA w nR eR fR)) (H15 : ∀ w, Calls Try.prog 15 #[.int .i64 k, .int .i64 r, .int .i64 c] w (RowA w nR eR fR))
    (H9 : ∀ w lo cl A C, Lst w lo ll A C L H → Calls Try.prog 9 #[.int .i64 k, .int .i64 r, .slice lo ll cl] w (OutA w nE eE m PH)) (H16 : ∀ w lo cl A C, Lst w lo ll A C L H → Calls Try.prog 16 #[.int .i64 k, .int .i64 r, .slice lo ll cl] w (OutA w nE eE m PH))
    (H10 : ∀ w lo cl A C, Lst w lo ll A C L H → Calls Try.prog 10 #[.int .i64 k, .int .i64 r, .slice lo ll cl] w (OutA w nD eD m DH)) (H17 : ∀ w lo cl A C, Lst w lo ll A C L H → Calls Try.prog 17 #[.int .i64 k, .int .i64 r, .slice lo ll cl] w (OutA w nD eD m DH))
    (H11 : ∀ w lo cl A C, Lst w lo ll A C L H → ll ≤ cl → Calls Try.prog 11 #[.int .i64 k, .int .i64 r, .slice lo ll cl] w (Told2 w bV eV)) (H18 : ∀ w lo cl A C, Lst w lo ll A C L H → ll ≤ cl → Calls Try.prog 18 #[.int .i64 k, .int .i64 r, .slice lo ll cl] w (Told2 w bV eV)) :
    Calls Try.prog 4 #[.int .i64 k, .int .i64 r, .int .i64 c, .slice lo ll cl] w fun e w' => e = .returned (.bool true) ∧ Below w.heap.size w w' := by
  have HL : Hid (Lst w lo ll A C L H) := hl
  have HN : Hid (∀ i, i < ll → A i = none → L i = 0 ∧ C i = 0) := hnil
  have HE : Hid (0 < nE → 1 ≤ m ∧ m ≤ 65536) := hEm
  have HD : Hid (0 < nD → 1 ≤ m ∧ m ≤ 65536) := hDm
  have K14 : Hid (∀ w, Calls Try.prog 14 #[.int .i64 k, .int .i64 r, .int .i64 c] w (RowA w nR eR fR)) := H14
  have K15 : Hid (∀ w, Calls Try.prog 15 #[.int .i64 k, .int .i64 r, .int .i64 c] w (RowA w nR eR fR)) := H15
  have K9 : Hid (∀ w lo cl A C, Lst w lo ll A C L H → Calls Try.prog 9 #[.int .i64 k, .int .i64 r, .slice lo ll cl] w (OutA w nE eE m PH)) := H9
  have K16 : Hid (∀ w lo cl A C, Lst w lo ll A C L H → Calls Try.prog 16 #[.int .i64 k, .int .i64 r, .slice lo ll cl] w (OutA w nE eE m PH)) := H16
  have K10 : Hid (∀ w lo cl A C, Lst w lo ll A C L H → Calls Try.prog 10 #[.int .i64 k, .int .i64 r, .slice lo ll cl] w (OutA w nD eD m DH)) := H10
  have K17 : Hid (∀ w lo cl A C, Lst w lo ll A C L H → Calls Try.prog 17 #[.int .i64 k, .int .i64 r, .slice lo ll cl] w (OutA w nD eD m DH)) := H17
  have K11 : Hid (∀ w lo cl A C, Lst w lo ll A C L H → ll ≤ cl → Calls Try.prog 11 #[.int .i64 k, .int .i64 r, .slice lo ll cl] w (Told2 w bV eV)) := H11
  have K18 : Hid (∀ w lo cl A C, Lst w lo ll A C L H → ll ≤ cl → Calls Try.prog 18 #[.int .i64 k, .int .i64 r, .slice lo ll cl] w (Told2 w bV eV)) := H18
  clear hl hnil hEm hDm H14 H15 H9 H16 H10 H17 H11 H18
  go_enter Try.func4, Try.ntmps4
  go_wp2_with fail
  refine (alive_any w).mono ?_
  rintro e w1 ⟨rfl, b1⟩
  replace HL : Hid (Lst w1 lo ll A C L H) := HL.out.below b1
  go_wp2_with fail
  refine (much_any w1 lo ll cl A C L H HL.out).mono ?_
  rintro e w' ⟨rfl, hw'⟩
  obtain rfl := hw'.symm
  cases hfew : fewB ll L
  · go_wp2_with fail
    go_ret
    exact ⟨rfl, b1⟩
  obtain ⟨hf1, hf2⟩ := fewB_true hfew
  have HTW := twin_any w1 lo ll cl A C L H (by omega) HL.out HN.out (fun i hi => by have := hf2 i hi; omega)
  clear hfew hf2
  go_wp2_with fail
  refine HTW.mono ?_
  rintro e w2 ⟨xo, xc, XT, XU, rfl, hx2, b2⟩
  have HL0 : Hid (Lst w1 lo ll A C L H) := HL.out
  have HX0 : Hid (Lst w2 xo ll XT XU L H) := hx2.lst
  have hxc : ll ≤ xc := (owns_cap hx2.out).1
  have HX : Hid (Lst w2 xo ll XT XU L H) := hx2.lst
  replace HL : Hid (Lst w2 lo ll A C L H) := HL.out.below b2
  have hs12 : w1.heap.size ≤ w2.heap.size := b2.size
  replace b1 := below_step b1 b2 b1.size
  have hs02 : w.heap.size ≤ w2.heap.size := b1.size
  clear hx2 b2 HTW
  go_wp2_with fail
  refine (K14.out w2).mono ?_
  rintro e w3 ⟨ra, rc, rfl, hr3, b3⟩
  have HR : Hid (RowSol w3 w2.heap.size w3.heap.size ra nR rc fR) := hr3
  replace HX : Hid (Lst w3 xo ll XT XU L H) := HX.out.below b3
  replace HL : Hid (Lst w3 lo ll A C L H) := HL.out.below b3
  have hs23 : w2.heap.size ≤ w3.heap.size := b3.size
  replace b1 := below_step b1 b3 b1.size
  clear hr3 b3
  go_wp2_with fail
  refine (K9.out w3 xo xc XT XU HX.out).mono ?_
  rintro e w4 ⟨pa, pc, PT, PU, rfl, hp4, b4⟩
  have HP : Hid (Copied w4 w3.heap.size nE (.slice pa nE pc) PT (fun _ => m) PU PH) := hp4
  have HPA : Hid (At_ w4 w3.heap.size w4.heap.size pa nE pc m PU PH) := at_of hp4 (fun h => (HE.out h).1)
  replace HR : Hid (RowSol w4 w2.heap.size w3.heap.size ra nR rc fR) := HR.out.below b4
  replace HX : Hid (Lst w4 xo ll XT XU L H) := HX.out.below b4
  replace HL : Hid (Lst w4 lo ll A C L H) := HL.out.below b4
  have hs34 : w3.heap.size ≤ w4.heap.size := b4.size
  replace b1 := below_step b1 b4 b1.size
  clear hp4 b4
  go_wp2_with fail
  refine (K10.out w4 xo xc XT XU HX.out).mono ?_
  rintro e w5 ⟨da, dc, DT, DU, rfl, hd5, b5⟩
  have HDC : Hid (Copied w5 w4.heap.size nD (.slice da nD dc) DT (fun _ => m) DU DH) := hd5
  have HDA : Hid (At_ w5 w4.heap.size w5.heap.size da nD dc m DU DH) := at_of hd5 (fun h => (HD.out h).1)
  replace HP : Hid (Copied w5 w3.heap.size nE (.slice pa nE pc) PT (fun _ => m) PU PH) := HP.out.stay (Stay.of_below b5)
  replace HPA : Hid (At_ w5 w3.heap.size w4.heap.size pa nE pc m PU PH) := HPA.out.below b5
  replace HR : Hid (RowSol w5 w2.heap.size w3.heap.size ra nR rc fR) := HR.out.below b5
  replace HX : Hid (Lst w5 xo ll XT XU L H) := HX.out.below b5
  replace HL : Hid (Lst w5 lo ll A C L H) := HL.out.below b5
  have hs45 : w4.heap.size ≤ w5.heap.size := b5.size
  replace b1 := below_step b1 b5 b1.size
  clear hd5 b5
  go_wp2_with fail
  refine (K11.out w5 xo xc XT XU HX.out hxc).mono ?_
  rintro e w6 ⟨rfl, b6⟩
  replace HDC : Hid (Copied w6 w4.heap.size nD (.slice da nD dc) DT (fun _ => m) DU DH) := HDC.out.stay (Stay.of_below b6)
  replace HDA : Hid (At_ w6 w4.heap.size w5.heap.size da nD dc m DU DH) := HDA.out.below b6
  replace HP : Hid (Copied w6 w3.heap.size nE (.slice pa nE pc) PT (fun _ => m) PU PH) := HP.out.stay (Stay.of_below b6)
  replace HPA : Hid (At_ w6 w3.heap.size w4.heap.size pa nE pc m PU PH) := HPA.out.below b6
  replace HR : Hid (RowSol w6 w2.heap.size w3.heap.size ra nR rc fR) := HR.out.below b6
  replace HX : Hid (Lst w6 xo ll XT XU L H) := HX.out.below b6
  replace HL : Hid (Lst w6 lo ll A C L H) := HL.out.below b6
  replace b1 := below_step b1 b6 b1.size
  have hs56 : w5.heap.size ≤ w6.heap.size := b6.size
  clear b6
  go_wp2_with fail
  refine (K15.out w6).mono ?_
  rintro e w7 ⟨ra2, rc2, rfl, hr7, b7⟩
  have HR2 : Hid (RowSol w7 w6.heap.size w7.heap.size ra2 nR rc2 fR) := hr7
  replace HDC : Hid (Copied w7 w4.heap.size nD (.slice da nD dc) DT (fun _ => m) DU DH) := HDC.out.stay (Stay.of_below b7)
  replace HDA : Hid (At_ w7 w4.heap.size w5.heap.size da nD dc m DU DH) := HDA.out.below b7
  replace HP : Hid (Copied w7 w3.heap.size nE (.slice pa nE pc) PT (fun _ => m) PU PH) := HP.out.stay (Stay.of_below b7)
  replace HPA : Hid (At_ w7 w3.heap.size w4.heap.size pa nE pc m PU PH) := HPA.out.below b7
  replace HR : Hid (RowSol w7 w2.heap.size w3.heap.size ra nR rc fR) := HR.out.below b7
  replace HX : Hid (Lst w7 xo ll XT XU L H) := HX.out.below b7
  replace HL : Hid (Lst w7 lo ll A C L H) := HL.out.below b7
  replace b1 := below_step b1 b7 b1.size
  have hs67 : w6.heap.size ≤ w7.heap.size := b7.size
  clear b7 hr7
  go_wp2_with fail
  refine (K16.out w7 lo cl A C HL.out).mono ?_
  rintro e w8 ⟨pa2, pc2, PT2, PU2, rfl, hp8, b8⟩
  have HP2 : Hid (Copied w8 w7.heap.size nE (.slice pa2 nE pc2) PT2 (fun _ => m) PU2 PH) := hp8
  replace HR2 : Hid (RowSol w8 w6.heap.size w7.heap.size ra2 nR rc2 fR) := HR2.out.below b8
  replace HDC : Hid (Copied w8 w4.heap.size nD (.slice da nD dc) DT (fun _ => m) DU DH) := HDC.out.stay (Stay.of_below b8)
  replace HDA : Hid (At_ w8 w4.heap.size w5.heap.size da nD dc m DU DH) := HDA.out.below b8
  replace HP : Hid (Copied w8 w3.heap.size nE (.slice pa nE pc) PT (fun _ => m) PU PH) := HP.out.stay (Stay.of_below b8)
  replace HPA : Hid (At_ w8 w3.heap.size w4.heap.size pa nE pc m PU PH) := HPA.out.below b8
  replace HR : Hid (RowSol w8 w2.heap.size w3.heap.size ra nR rc fR) := HR.out.below b8
  replace HX : Hid (Lst w8 xo ll XT XU L H) := HX.out.below b8
  replace HL : Hid (Lst w8 lo ll A C L H) := HL.out.below b8
  replace b1 := below_step b1 b8 b1.size
  have hs78 : w7.heap.size ≤ w8.heap.size := b8.size
  clear b8 hp8
  go_wp2_with fail
  refine (K17.out w8 lo cl A C HL.out).mono ?_
  rintro e w9 ⟨da2, dc2, DT2, DU2, rfl, hd9, b9⟩
  have HD2 : Hid (Copied w9 w8.heap.size nD (.slice da2 nD dc2) DT2 (fun _ => m) DU2 DH) := hd9
  replace HP2 : Hid (Copied w9 w7.heap.size nE (.slice pa2 nE pc2) PT2 (fun _ => m) PU2 PH) := HP2.out.stay (Stay.of_below b9)
  replace HR2 : Hid (RowSol w9 w6.heap.size w7.heap.size ra2 nR rc2 fR) := HR2.out.below b9
  replace HDC : Hid (Copied w9 w4.heap.size nD (.slice da nD dc) DT (fun _ => m) DU DH) := HDC.out.stay (Stay.of_below b9)
  replace HDA : Hid (At_ w9 w4.heap.size w5.heap.size da nD dc m DU DH) := HDA.out.below b9
  replace HP : Hid (Copied w9 w3.heap.size nE (.slice pa nE pc) PT (fun _ => m) PU PH) := HP.out.stay (Stay.of_below b9)
  replace HPA : Hid (At_ w9 w3.heap.size w4.heap.size pa nE pc m PU PH) := HPA.out.below b9
  replace HR : Hid (RowSol w9 w2.heap.size w3.heap.size ra nR rc fR) := HR.out.below b9
  replace HX : Hid (Lst w9 xo ll XT XU L H) := HX.out.below b9
  replace HL : Hid (Lst w9 lo ll A C L H) := HL.out.below b9
  replace b1 := below_step b1 b9 b1.size
  have hs89 : w8.heap.size ≤ w9.heap.size := b9.size
  clear b9 hd9
  go_wp2_with fail
  refine (K18.out w9 lo cl A C HL.out hcap).mono ?_
  rintro e w10 ⟨rfl, b10⟩
  replace HD2 : Hid (Copied w10 w8.heap.size nD (.slice da2 nD dc2) DT2 (fun _ => m) DU2 DH) := HD2.out.stay (Stay.of_below b10)
  replace HP2 : Hid (Copied w10 w7.heap.size nE (.slice pa2 nE pc2) PT2 (fun _ => m) PU2 PH) := HP2.out.stay (Stay.of_below b10)
  replace HR2 : Hid (RowSol w10 w6.heap.size w7.heap.size ra2 nR rc2 fR) := HR2.out.below b10
  have hs910 : w9.heap.size ≤ w10.heap.size := b10.size
  replace HDC : Hid (Copied w10 w4.heap.size nD (.slice da nD dc) DT (fun _ => m) DU DH) := HDC.out.stay (Stay.of_below b10)
  replace HDA : Hid (At_ w10 w4.heap.size w5.heap.size da nD dc m DU DH) := HDA.out.below b10
  replace HP : Hid (Copied w10 w3.heap.size nE (.slice pa nE pc) PT (fun _ => m) PU PH) := HP.out.stay (Stay.of_below b10)
  replace HPA : Hid (At_ w10 w3.heap.size w4.heap.size pa nE pc m PU PH) := HPA.out.below b10
  replace HR : Hid (RowSol w10 w2.heap.size w3.heap.size ra nR rc fR) := HR.out.below b10
  replace HX : Hid (Lst w10 xo ll XT XU L H) := HX.out.below b10
  replace HL : Hid (Lst w10 lo ll A C L H) := HL.out.below b10
  replace b1 := below_step b1 b10 b1.size
  clear b10
  have v1 := conv_any HR.out.rd rc
  have v2 := conv_any HR2.out.rd rc2
  have HSP := same_k w10 pa pa2 nE pc pc2 _ _ _ _ _ _ (by omega) HP.out.lst HP2.out.lst
  go_wp2_with fail
  refine HSP.mono ?_
  rintro e w11 ⟨rfl, b11⟩
  replace HDC : Hid (Copied w11 w4.heap.size nD (.slice da nD dc) DT (fun _ => m) DU DH) := HDC.out.stay (Stay.of_below b11)
  replace HDA : Hid (At_ w11 w4.heap.size w5.heap.size da nD dc m DU DH) := HDA.out.below b11
  replace HPA : Hid (At_ w11 w3.heap.size w4.heap.size pa nE pc m PU PH) := HPA.out.below b11
  replace HR : Hid (RowSol w11 w2.heap.size w3.heap.size ra nR rc fR) := HR.out.below b11
  replace HX : Hid (Lst w11 xo ll XT XU L H) := HX.out.below b11
  replace HL : Hid (Lst w11 lo ll A C L H) := HL.out.below b11
  replace HD2 : Hid (Copied w11 w8.heap.size nD (.slice da2 nD dc2) DT2 (fun _ => m) DU2 DH) := HD2.out.stay (Stay.of_below b11)
  replace HR2 : Hid (RowSol w11 w6.heap.size w7.heap.size ra2 nR rc2 fR) := HR2.out.below b11
  replace b1 := below_step b1 b11 b1.size
  have hs10 : w9.heap.size ≤ w11.heap.size := Nat.le_trans hs910 b11.size
  clear b11 HSP v1 v2 HP HP2
  have HSD := same_k w11 da da2 nD dc dc2 _ _ _ _ _ _ (by omega) HDC.out.lst HD2.out.lst
  go_wp2_with fail
  refine HSD.mono ?_
  rintro e w12 ⟨rfl, b12⟩
  replace HDC : Hid (Copied w12 w4.heap.size nD (.slice da nD dc) DT (fun _ => m) DU DH) := HDC.out.stay (Stay.of_below b12)
  replace HDA : Hid (At_ w12 w4.heap.size w5.heap.size da nD dc m DU DH) := HDA.out.below b12
  replace HPA : Hid (At_ w12 w3.heap.size w4.heap.size pa nE pc m PU PH) := HPA.out.below b12
  replace HR : Hid (RowSol w12 w2.heap.size w3.heap.size ra nR rc fR) := HR.out.below b12
  replace HX : Hid (Lst w12 xo ll XT XU L H) := HX.out.below b12
  replace HL : Hid (Lst w12 lo ll A C L H) := HL.out.below b12
  replace HD2 : Hid (Copied w12 w8.heap.size nD (.slice da2 nD dc2) DT2 (fun _ => m) DU2 DH) := HD2.out.stay (Stay.of_below b12)
  replace HR2 : Hid (RowSol w12 w6.heap.size w7.heap.size ra2 nR rc2 fR) := HR2.out.below b12
  replace b1 := below_step b1 b12 b1.size
  have hs12b : w9.heap.size ≤ w12.heap.size := Nat.le_trans hs10 b12.size
  clear b12 HSD HDC
  go_wp2_with fail
  refine (spoil_out w12 w4.heap.size w5.heap.size nD m dc da DU DH (by omega) (fun h => by have := HD.out h; omega) HDA.out).mono ?_
  rintro e w13 ⟨rfl, k13⟩
  replace HPA : Hid (At_ w13 w3.heap.size w4.heap.size pa nE pc m PU PH) := HPA.out.keeps k13 (.inl (Nat.le_refl _))
  replace HR : Hid (RowSol w13 w2.heap.size w3.heap.size ra nR rc fR) := HR.out.keeps k13 (.inl hs34)
  have KK : Hid (Keeps w2.heap.size w5.heap.size w12 w13) := k13.mono (by omega) (Nat.le_refl _)
  clear k13 HDA
  go_wp2_with fail
  refine (spoil_out w13 w3.heap.size w4.heap.size nE m pc pa PU PH (by omega) (fun h => by have := HE.out h; omega) HPA.out).mono ?_
  rintro e w14 ⟨rfl, k14⟩
  replace HR : Hid (RowSol w14 w2.heap.size w3.heap.size ra nR rc fR) := HR.out.keeps k14 (.inl (Nat.le_refl _))
  replace KK : Hid (Keeps w2.heap.size w5.heap.size w12 w14) := KK.out.trans (k14.mono hs23 hs45)
  clear k14 HPA
  have hw14 : w3.heap.size ≤ w14.heap.size := by have := KK.out.size; omega
  go_wp2_with fail
  refine (spoil_row w14 w2.heap.size w3.heap.size nR rc ra fR (by omega) HR.out hw14).mono ?_
  rintro e w15 ⟨rfl, k15⟩
  replace KK : Hid (Keeps w2.heap.size w5.heap.size w12 w15) := KK.out.trans (k15.mono (Nat.le_refl _) (by omega))
  replace HX : Hid (Lst w15 xo ll XT XU L H) := HX0.out.past HX.out KK.out (Nat.le_refl _)
  replace HL : Hid (Lst w15 lo ll A C L H) := HL0.out.past HL.out KK.out hs12
  replace HD2 : Hid (Copied w15 w8.heap.size nD (.slice da2 nD dc2) DT2 (fun _ => m) DU2 DH) := HD2.out.later KK.out (by omega)
  replace HR2 : Hid (RowSol w15 w6.heap.size w7.heap.size ra2 nR rc2 fR) := HR2.out.keeps KK.out (.inr hs56)
  replace b1 : Below w.heap.size w w15 := b1.trans (KK.out.below b1.size hs02)
  clear k15 HR KK
  go_wp2_with fail
  refine (K10.out w15 xo xc XT XU HX.out).mono ?_
  rintro e w16 ⟨aa, ac, AT, AU, rfl, ha16, b16⟩
  have HAG : Hid (Copied w16 w15.heap.size nD (.slice aa nD ac) AT (fun _ => m) AU DH) := ha16
  replace HX : Hid (Lst w16 xo ll XT XU L H) := HX.out.below b16
  replace HL : Hid (Lst w16 lo ll A C L H) := HL.out.below b16
  replace HD2 : Hid (Copied w16 w8.heap.size nD (.slice da2 nD dc2) DT2 (fun _ => m) DU2 DH) := HD2.out.stay (Stay.of_below b16)
  replace HR2 : Hid (RowSol w16 w6.heap.size w7.heap.size ra2 nR rc2 fR) := HR2.out.below b16
  replace b1 := below_step b1 b16 b1.size
  clear ha16 b16
  go_wp2_with fail
  refine (K14.out w16).mono ?_
  rintro e w17 ⟨ta, tc, rfl, hr17, b17⟩
  have HTR : Hid (RowSol w17 w16.heap.size w17.heap.size ta nR tc fR) := hr17
  replace HAG : Hid (Copied w17 w15.heap.size nD (.slice aa nD ac) AT (fun _ => m) AU DH) := HAG.out.stay (Stay.of_below b17)
  replace HX : Hid (Lst w17 xo ll XT XU L H) := HX.out.below b17
  replace HL : Hid (Lst w17 lo ll A C L H) := HL.out.below b17
  replace HD2 : Hid (Copied w17 w8.heap.size nD (.slice da2 nD dc2) DT2 (fun _ => m) DU2 DH) := HD2.out.stay (Stay.of_below b17)
  replace HR2 : Hid (RowSol w17 w6.heap.size w7.heap.size ra2 nR rc2 fR) := HR2.out.below b17
  replace b1 := below_step b1 b17 b1.size
  clear hr17 b17
  have HS1 := same_k w17 aa da2 nD ac dc2 _ _ _ _ _ _ (by omega) HAG.out.lst HD2.out.lst
  go_wp2_with fail
  refine HS1.mono ?_
  rintro e w18 ⟨rfl, b18⟩
  have v3 := conv_any (HTR.out.below b18).rd tc
  have v4 := conv_any (HR2.out.below b18).rd rc2
  have HS2 := same_k w18 xo lo ll xc cl _ _ _ _ _ _ (by omega) (HX.out.below b18) (HL.out.below b18)
  replace b1 := below_step b1 b18 b1.size
  clear b18 HS1
  go_wp2_with fail
  refine HS2.mono ?_
  rintro e w19 ⟨rfl, b19⟩
  replace b1 := below_step b1 b19 b1.size
  clear b19 HS2 v3 v4
  go_wp2_with fail
  go_ret
  exact ⟨by simp, b1⟩
theorem lenB_pos {b : Bool} {n : Nat} (h : 0 < lenB b n) : b = true := by
  cases b
  · exact absurd h (Nat.lt_irrefl 0)
  · rfl
theorem cells_walk (w : World) (k r c : Int) (lo : Option Addr) (ll cl : Nat) (A : Nat → Option Addr) (C L : Nat → Nat) (H : M) (hl : Lst w lo ll A C L H) (hnil : ∀ i, i < ll → A i = none → L i = 0 ∧ C i = 0) (hcap : ll ≤ cl) :
    Calls Try.prog 4 #[.int .i64 k, .int .i64 r, .int .i64 c, .slice lo ll cl] w fun e w' => e = .returned (.bool true) ∧ Below w.heap.size w w' := by
  refine cells_core w k r c lo ll cl A C L H (lenB (okRow k r c) k.toNat) (lenB (okEnc ll L k r) r.toNat) (lenB (okDec ll L k r) (k.toNat + r.toNat)) (len0 L ll) (errB (okRow k r c) 2) (errE (mayB k r) (okEnc ll L k r)) (errD (mayB k r) (okC ll L (k + r)) (okDec ll L k r)) (errE (mayB k r) (okVer ll L k r)) (okVer ll L k r && verB k.toNat r.toNat (len0 L ll) H) (gen k.toNat c.toNat) (par k.toNat H) (enc k.toNat (dec k.toNat (sel L ll) H)) hl hnil hcap
    (lenB_le _ _ _ fun h => ?_) (lenB_le _ _ _ fun h => ?_) (lenB_le _ _ _ fun h => ?_) (fun h => ?_) (fun h => ?_)
    (fun w => Row_any w k r c) (fun w => rRow_any w k r c) (fun w lo cl A C h => Encode_any w k r lo ll cl A C L H h) (fun w lo cl A C h => rEncode_any w k r lo ll cl A C L H h) (fun w lo cl A C h => Decode_any w k r lo ll cl A C L H h) (fun w lo cl A C h => rDecode_any w k r lo ll cl A C L H h)
    (fun w lo cl A C h hc => Verify_any w k r lo ll cl A C L H h hc) (fun w lo cl A C h hc => rVerify_any w k r lo ll cl A C L H h hc)
  · unfold okRow at h
    rw [Bool.and_eq_true] at h
    have := mayB_true h.1
    omega
  · have := mayB_true (okEnc_true h).1
    omega
  · have := mayB_true (okDec_true h).1
    omega
  · obtain ⟨h1, h2, h3⟩ := okEnc_true (lenB_pos h)
    have := mayB_true h1
    obtain ⟨m1, m2, _⟩ := alike_of (okC_true h2).2 (by omega)
    exact ⟨m1, m2⟩
  · obtain ⟨h1, h2, h3⟩ := okDec_true (lenB_pos h)
    have := mayB_true h1
    obtain ⟨m1, m2, _⟩ := alike_of (okC_true h2).2 (by omega)
    exact ⟨m1, m2⟩
/-- What a walk is told of a list of slices that came in, its room too. -/
def IsLstC (w : World) (a : Option Addr) (len cap : Nat) : Prop := IsLst w a len cap ∧ len ≤ cap
theorem isLstC_of {H : Type} {enc : TypeId × Value → H} {w : World} {base : Nat} {held : Bool} {fuel : Nat} {a : Option Addr} {len cap : Nat} {x : DataW H × List MemPlace}
    (h : DataW.trod enc Try.prog w base (fun _ => true) held fuel 24 [.slice a len cap] = some x) : IsLstC w a len cap := by
  refine ⟨isLst_of h, ?_⟩
  rcases Go.Deep.open_int_rows Try.underlying24 Try.underlying23 Try.underlying5 (by kernel_rfl) (by kernel_rfl) h with ⟨hcs, _⟩ | ⟨ad, l, c, A, L, C, Z, hcs, _, hl, hm, _, hr⟩
  · simp at hcs
    obtain ⟨rfl, rfl, rfl⟩ := hcs
    exact Nat.le_refl _
  · simp at hcs
    obtain ⟨rfl, rfl, rfl⟩ := hcs
    exact hl
end Go.Proofs.Ythkikocacbbhkaa
