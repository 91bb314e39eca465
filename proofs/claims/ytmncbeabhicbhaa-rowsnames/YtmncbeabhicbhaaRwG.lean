/- What Free of the program answers. -/
import Derived.Test.YtmncbeabhicbhaaRwF
import Derived.Maps.OwnSet
import Derived.WalkArith
namespace Go.Proofs.Ytmncbeabhicbhaa
open Go.RowKit Go.Sort Go.Maps

theorem law3 : Keyed Try.prog 3 := int_keyed Try.underlying3
theorem key_i {x : Int} (h : 0 ≤ x ∧ x < 10000) : keyOf Try.prog 3 (.int .i64 x) = some (.int .i64 x) := keyOf_int_mk Try.underlying3 (WalkArith.wf_i64 (by omega))
theorem allD_size (H : Type) : ∀ k, k ≤ 300 → Maps.size (allD H k) ≤ k
  | 0, _ => Nat.le_refl _
  | k + 1, h => by
    show Maps.size ((allD H k).put _ _) ≤ _
    rw [size_put (allD_tidy H k (by omega))]
    have := allD_size H k (by omega)
    split <;> omega
theorem lessD_size (H : Type) (Q : Nat) (hQ : Q ≤ 300) (R : Nat → Int) : ∀ j, Maps.size (lessD H Q R j) ≤ Q
  | 0 => allD_size H Q hQ
  | j + 1 => by
    have h1 := size_del (k := .int .i64 (R j)) (lessD_tidy H Q hQ R j)
    have h2 := lessD_size H Q hQ R j
    show Maps.size ((lessD H Q R j).del _) ≤ _
    omega
set_option maxHeartbeats 2000000 in
set_option maxRecDepth 100000 in
theorem Free_any (k r c q : Int) (w : World) (ao : Option Addr) (n ca : Nat) (R : Nat → Int) (hv : RdI w ao n R) (hn : n ≤ 200000) (E : Int) (hE : erF (erP k r c q) q n R = E) :
    Calls Try.prog 9 #[.agg #[.int .i64 k, .int .i64 r, .int .i64 c, .int .i64 q], .slice ao n ca] w fun e w' => AnsR w.heap.size w' e E (cnt (nfB n R) q.toNat) (sel (nfB n R) q.toNat) ∧ Below w.heap.size w w' := by
  obtain ⟨w0, hw0⟩ : ∃ w0, w0 = w.alloc (.cells #[.int .i64 k, .int .i64 r, .int .i64 c, .int .i64 q] 24) := ⟨_, rfl⟩
  have b0 : Below w.heap.size w w0 := by rw [hw0]; exact below_alloc _ _
  have HPAR : Hid (∀ v, Below w0.heap.size w0 v → v.cell? ⟨w.heap.size, 0, none⟩ = some (.int .i64 k) ∧ v.cell? ⟨w.heap.size, 1, none⟩ = some (.int .i64 r) ∧ v.cell? ⟨w.heap.size, 2, none⟩ = some (.int .i64 c) ∧ v.cell? ⟨w.heap.size, 3, none⟩ = some (.int .i64 q)) := fun v hv => par_held hw0 hv
  obtain ⟨x0, x1, x2, x3⟩ := HPAR.out w0 (Below.refl _ _)
  have HCK := fun w => Check_any k r c q w
  have HB0 : Hid (Below w.heap.size w w0) := b0
  have HV : Hid (RdI w ao n R) := hv
  clear hv b0
  unfold erF at hE
  rcases erP_cases k r c q with hx | hx
  · rw [hx] at hE HCK
    rw [if_pos rfl] at hE
    obtain ⟨q1, q2⟩ := erP_rows hx
    obtain ⟨Q, rfl⟩ : ∃ Q : Nat, q = (Q : Int) := ⟨q.toNat, by omega⟩
    rw [Int.toNat_natCast]
    have HT : Hid (∀ v, Below w.heap.size w v → Calls Try.prog 20 #[.agg #[.int .i64 k, .int .i64 r, .int .i64 c, .int .i64 (Q : Int)], .slice ao n ca] v fun e w' => e = .returned (.int .i64 E) ∧ Below v.heap.size v w') := fun v hb => there_any k r c Q v ao n ca R (HV.out.below hb) hn E hE
    clear hx
    go_enter Try.func9, Try.ntmps9
    go_wp2_with fail
    rw [← hw0]
    refine (HCK _).mono ?_
    rintro e wa ⟨rfl, ha⟩
    have HBA : Hid (Below w0.heap.size w0 wa) := ha
    clear ha hw0 x0 x1 x2 x3 HCK
    obtain ⟨x0, x1, x2, x3⟩ := HPAR.out wa HBA.out
    go_wp2_with fail
    refine (HT.out _ (below_then HB0.out HBA.out)).mono ?_
    rintro e wb ⟨rfl, hb⟩
    have HBB : Hid (Below w0.heap.size w0 wb) := below_then HBA.out hb
    clear hb HT x0 x1 x2 x3
    by_cases h1 : E = 0
    · subst h1
      have hin : n ≤ 65536 ∧ ∀ i, i < n → 0 ≤ R i ∧ R i < (Q : Int) := by
        rcases erH_cases (Q : Int) n R with ⟨g1, g2⟩ | ⟨g1, g3, g2⟩ | ⟨g1, g3, g2⟩
        · rw [g2] at hE; exact absurd hE (by decide)
        · exact ⟨g1, g3⟩
        · rw [g2] at hE; exact absurd hE (by decide)
      have HIN : Hid (∀ i, i < n → 0 ≤ R i ∧ R i < (Q : Int)) := hin.2
      clear hin hE
      have hmm := @run_makeMap Try.prog
      have HOW : Hid ((wb.alloc (.map #[] 0)).ownsMap Try.prog 3 (unitElem (H := Unit)) wb.heap.size 0 (allD Unit 0)) := World.ownsMap_made _ _ _ _
      have HB1 : Hid (Below wb.heap.size wb (wb.alloc (.map #[] 0))) := below_alloc _ _
      obtain ⟨x0, x1, x2, x3⟩ := HPAR.out (wb.alloc (.map #[] 0)) (below_then HBB.out HB1.out)
      go_wp2_with fail
      go_loopw [26] (fun x wr => ∃ i : Nat, i ≤ Q ∧ x = .int .i64 (i : Int) ∧ Hid (wr.ownsMap Try.prog 3 (unitElem (H := Unit)) wb.heap.size i (allD Unit i)) ∧ Hid (Below wb.heap.size wb wr)) (fun x _ => Q - (intOf x).toNat)
      case atStart => exact ⟨0, Nat.zero_le _, rfl, HOW, HB1⟩
      case round =>
        obtain ⟨i, hi, rfl, hown, hbel⟩ := hrel
        by_cases hlt : i < Q
        · have hkey : keyOf Try.prog 3 (.int .i64 (i : Int)) = some (.int .i64 (i : Int)) := key_i ⟨by omega, by omega⟩
          have i2 : (i : Int) < (Q : Int) := by omega
          have HS := hbel.out.size
          go_wp2_with (at_mapUpdate; refine wpList_mapUpdate_own _ rfl _ _ _ 41 rfl 3 42 law3 Try.underlying41 (unitElem (H := Unit)) wb.heap.size i _ rfl hown.out (by unfold maxLen; omega) _ _ _ rfl rfl hkey _ [] unitElem_mk ?_; intro w1 hown1 hgrow1)
          have HO1 : Hid (w1.ownsMap Try.prog 3 (unitElem (H := Unit)) wb.heap.size (i + 1) (allD Unit (i + 1))) := hown1
          have HB2 : Hid (Below wb.heap.size wb w1) := hbel.out.grown hgrow1 HS (fun r hr => by cases hr; exact Nat.le_refl _)
          clear hown1 hgrow1
          go_roundw
          case rel => exact ⟨i + 1, by omega, by go_num, HO1, HB2⟩
          case measure => simp [intOf]; omega
        · obtain rfl : i = Q := by omega
          have HO1 : Hid (wr.ownsMap Try.prog 3 (unitElem (H := Unit)) wb.heap.size i (lessD Unit i R 0)) := hown.out
          clear hown x0 x1 x2 x3
          obtain ⟨wm, rfl⟩ : ∃ x, x = wr := ⟨wr, rfl⟩
          go_wp2_with fail
          go_loopw [35] (fun x ws => ∃ j : Nat, j ≤ n ∧ x = .int .i64 (j : Int) ∧ Hid (ws.ownsMap Try.prog 3 (unitElem (H := Unit)) wb.heap.size i (lessD Unit i R j)) ∧ Hid (Below wb.heap.size wb ws)) (fun x _ => n - (intOf x).toNat)
          case atStart => exact ⟨0, Nat.zero_le _, rfl, HO1, hbel⟩
          case round =>
            obtain ⟨j, hj, rfl, hown, hbel2⟩ := hrel
            by_cases hlt2 : j < n
            · have hb9 := below_then HB0.out (below_then HBB.out hbel2.out)
              obtain ⟨b, off, rfl, hc⟩ := (HV.out.below hb9) (by omega)
              have ck := hc j hlt2
              have hkey : keyOf Try.prog 3 (.int .i64 (R j)) = some (.int .i64 (R j)) := key_i (by have := HIN.out j hlt2; omega)
              have i1 : (0 : Int) ≤ (j : Int) := by omega
              have i2 : (j : Int) < (n : Int) := by omega
              have HS := hbel2.out.size
              clear hc hb9
              go_wp2_with (at_delete; refine wpList_delete_own _ rfl _ _ 41 3 rfl 42 law3 Try.underlying41 (unitElem (H := Unit)) wb.heap.size i _ rfl hown.out _ _ rfl hkey ?_; intro w1 hown1 hturn1)
              have HO2 : Hid (w1.ownsMap Try.prog 3 (unitElem (H := Unit)) wb.heap.size i (lessD Unit i R (j + 1))) := hown1
              have HB2 : Hid (Below wb.heap.size wb w1) := hbel2.out.grown hturn1.grown HS (fun r hr => by cases hr; exact Nat.le_refl _)
              clear hown1 hturn1
              go_roundw
              case rel => exact ⟨j + 1, by omega, by go_num, HO2, HB2⟩
              case measure => simp [intOf]; omega
            · obtain rfl : j = n := by omega
              have hle := lessD_size Unit i (by omega) R j
              have HSO := slices_Sorted wb.heap.size i (lessD Unit i R j) (unitElem (H := Unit)) wr hown.out (by unfold maxLen; omega) (by omega)
              have HK := maps_Keys (some wb.heap.size) wr
              have HFR : Hid (∀ (v : Value) (ss : List Int) (wy : World), ss.Perm (intKeys (lessD Unit i R j)) → wy.ownsRow (wr.heap.size + 1) 3 1 v ss.length ((ss.mergeSort (fun x y => decide (x ≤ y))).map encZ) → Below (wr.heap.size + 1) (wr.alloc (.cells #[.map (some wb.heap.size)] 41)) wy → AnsR w.heap.size wy (.returned (.tuple #[v, .int .i64 0])) 0 (cnt (nfB j R) i) (sel (nfB j R) i) ∧ Below w.heap.size w wy) := fun v ss wy h1 h2 h3 => by
                have h4 := free_sorted Unit (Q := i) (n := j) (by omega) R h1
                have hb9 := below_then HB0.out (below_then HBB.out hbel2.out)
                have h5 : ss.length = cnt (nfB j R) i := by rw [← sort_length, h4, lsI_length]
                change wy.ownsRow (wr.heap.size + 1) 3 1 v ss.length ((ss.mergeSort leI).map encZ) at h2
                rw [h4, h5] at h2
                have h6 : ((lsI (cnt (nfB j R) i) (sel (nfB j R) i)).map encZ) = zOf (cnt (nfB j R) i) (sel (nfB j R) i) := (zOf_ls _ _).symm
                rw [h6] at h2
                obtain ⟨ro, rc, rfl⟩ : ∃ ro rc, v = .slice ro (cnt (nfB j R) i) rc := by
                  rcases h2.2 with ⟨rfl, e⟩ | ⟨g, cap, cur, rfl, _⟩
                  · rw [e]; exact ⟨none, 0, rfl⟩
                  · exact ⟨_, cap, rfl⟩
                have hz := hb9.size
                refine ⟨⟨ro, rc, rfl, Own.mono h2 (by omega)⟩, below_then hb9 ((below_alloc wr _).trans (h3.mono (by omega)))⟩
              clear hown hle
              go_wp2_with fail
              refine HK.mono ?_
              rintro e wx ⟨rfl, rfl⟩
              go_wp2_with fail
              refine HSO.mono ?_
              rintro e wy ⟨v, ss, rfl, h1, h2, _, h3⟩
              have HF := HFR.out v ss wy h1 h2 h3
              clear h1 h2 h3 HFR
              go_wp2_with fail
              go_ret2
              exact HF
    · clear HPAR
      go_wp2_with fail
      go_ret2
      exact ⟨ansR_no h1 rfl, below_then HB0.out HBB.out⟩
  · rw [hx] at hE HCK
    rw [if_neg (by decide)] at hE
    subst hE
    go_enter Try.func9, Try.ntmps9
    go_wp2_with fail
    rw [← hw0]
    refine (HCK _).mono ?_
    rintro e wa ⟨rfl, ha⟩
    clear hw0 x0 x1 x2 x3 HCK HPAR
    go_wp2_with fail
    go_ret2
    exact ⟨ansR_no (by decide) rfl, below_then HB0.out ha⟩
end Go.Proofs.Ytmncbeabhicbhaa
