/- What Of of the program answers; two lists put into one. -/
import Derived.Test.YtgflgmkaaidfnaaDelC
namespace Go.Proofs.Ytgflgmkaaidfnaa
open Go.RowKit

def duo {α : Type} (a b : α) (i : Nat) : α := if i = 0 then a else b
theorem duo_0 {α : Type} (a b : α) : duo a b 0 = a := rfl
theorem duo_1 {α : Type} (a b : α) : duo a b 1 = b := rfl
theorem lst_duo {w : World} {g : Nat} (hg : w.heap.size = g) (ao bo : Option Addr) (la ca lb cb : Nat) (f h : Nat → K) (ha : Rd w ao la f) (hb : Rd w bo lb h) :
    Lst (w.alloc (.cells #[.slice ao la ca, .slice bo lb cb] 23)) (some ⟨g, 0, none⟩) 2 (duo ao bo) (duo ca cb) (duo la lb) (duo f h) := by
  subst hg
  refine ⟨fun i hi => ?_, fun _ => ⟨_, 0, rfl, fun i hi => ?_⟩⟩
  · obtain rfl | rfl : i = 0 ∨ i = 1 := by omega
    · exact ha.alloc _
    · exact hb.alloc _
  · rw [Nat.zero_add, cell_of_row _ _ _ _ _ _ (heap_alloc_new w _)]
    obtain rfl | rfl : i = 0 ∨ i = 1 := by omega
    · rfl
    · rfl
theorem lst_one {w : World} {g : Nat} (hg : w.heap.size = g) (ao : Option Addr) (la ca : Nat) (f : Nat → K) (ha : Rd w ao la f) :
    Lst (w.alloc (.cells #[.slice ao la ca] 23)) (some ⟨g, 0, none⟩) 1 (fun _ => ao) (fun _ => ca) (fun _ => la) (fun _ => f) := by
  subst hg
  refine ⟨fun i hi => ha.alloc _, fun _ => ⟨_, 0, rfl, fun i hi => ?_⟩⟩
  rw [Nat.zero_add, cell_of_row _ _ _ _ _ _ (heap_alloc_new w _)]
  obtain rfl : i = 0 := by omega
  rfl
theorem rdI_one {w : World} {g : Nat} (hg : w.heap.size = g) (c : Int) : RdI (w.alloc (.cells #[.int .i64 c] 3)) (some ⟨g, 0, none⟩) 1 (fun _ => c) := by
  subst hg
  refine fun _ => ⟨_, 0, rfl, fun i hi => ?_⟩
  rw [Nat.zero_add, cell_of_row _ _ _ _ _ _ (heap_alloc_new w _)]
  obtain rfl : i = 0 := by omega
  rfl
theorem trm_duo {w : World} {g : Nat} (hg : w.heap.size = g) (ao bo : Option Addr) (la ca lb cb : Nat) (f h : Nat → K) (ha : Rd w ao la f) (hb : Rd w bo lb h) :
    Trm (w.alloc (.cells #[.int .u8 1, .slice ao la ca, .int .u8 1, .slice bo lb cb] 45)) (some ⟨g, 0, none⟩) 2 (fun _ => 1) (duo ao bo) (duo ca cb) (duo la lb) (duo f h) := by
  subst hg
  refine ⟨fun i hi => ?_, fun _ => ⟨_, rfl, fun i hi => ?_⟩⟩
  · obtain rfl | rfl : i = 0 ∨ i = 1 := by omega
    · exact ha.alloc _
    · exact hb.alloc _
  · rw [cell_of_row _ _ _ _ _ _ (heap_alloc_new w _), cell_of_row _ _ _ _ _ _ (heap_alloc_new w _)]
    obtain rfl | rfl : i = 0 ∨ i = 1 := by omega
    · exact ⟨rfl, rfl⟩
    · exact ⟨rfl, rfl⟩
/-- Two cells may be, and are alike. -/
def okOf (la lb : Nat) : Bool := alikeB 2 (duo la lb)
theorem okOf_true {la lb : Nat} (h : okOf la lb = true) : 1 ≤ la ∧ la ≤ 65536 ∧ lb = la := by
  have h0 := alikeB_true h 0 (by omega)
  have h1 := alikeB_true h 1 (by omega)
  rw [duo_0] at h0
  rw [duo_0, duo_1] at h1
  exact ⟨h0.1, h0.2.1, h1.2.2⟩
theorem okOf_of {la lb : Nat} (h1 : 1 ≤ la) (h2 : la ≤ 65536) (h3 : lb = la) : okOf la lb = true := by
  refine decide_eq_true fun i hi => ?_
  obtain rfl | rfl : i = 0 ∨ i = 1 := by omega
  · exact ⟨h1, h2, rfl⟩
  · rw [duo_0, duo_1, h3]; exact ⟨h1, h2, rfl⟩
def addF (f h : Nat → K) (i : Nat) : K := K.add (f i) (h i)
theorem lin_duo (f h : Nat → K) : lin 2 (fun _ => 1) (duo f h) = addF f h := by
  funext b
  rw [lin_succ, lin_succ, lin_zero, K.zero_add, K.one_mul, K.one_mul]
  rfl
set_option maxHeartbeats 1000000 in
set_option maxRecDepth 100000 in
theorem Of_any (w : World) (ao bo : Option Addr) (la ca lb cb : Nat) (f h : Nat → K) (ha : Rd w ao la f) (hb : Rd w bo lb h) :
    Calls Try.prog 9 #[.slice ao la ca, .slice bo lb cb] w (OneAns w (okOf la lb) 40 la (addF f h)) := by
  have HA := alike_any (w.alloc (.cells #[.slice ao la ca, .slice bo lb cb] 23)) (some ⟨w.heap.size, 0, none⟩) 2 2 _ _ _ _ (by omega) (lst_duo rfl ao bo la ca lb cb f h ha hb)
  cases hok : okOf la lb
  · rw [show alikeB 2 (duo la lb) = false from hok] at HA
    clear ha hb hok
    go_enter Try.func9, Try.ntmps9
    go_wp2_with (go_at_call 21; refine HA.mono ?_; rintro e w' ⟨rfl, hw'⟩; obtain rfl := hw'.symm)
    go_ret2
    exact ⟨none, 0, rfl, .inl ⟨rfl, rfl, rfl⟩, below_alloc _ _⟩
  · obtain ⟨h1, h2, rfl⟩ := okOf_true hok
    rw [show alikeB 2 (duo lb lb) = true from hok] at HA
    have HS : Hid (Calls Try.prog 22 #[.slice (some ⟨w.heap.size + 1, 0, none⟩) 2 2] ((w.alloc (.cells #[.slice ao lb ca, .slice bo lb cb] 23)).alloc (.cells #[.int .u8 1, .slice ao lb ca, .int .u8 1, .slice bo lb cb] 45)) fun e w' => ∃ g, e = .returned (.slice (some ⟨g, 0, none⟩) lb lb) ∧ ((w.alloc (.cells #[.slice ao lb ca, .slice bo lb cb] 23)).alloc (.cells #[.int .u8 1, .slice ao lb ca, .int .u8 1, .slice bo lb cb] 45)).heap.size ≤ g ∧ Own w' g lb lb (lin 2 (fun _ => 1) (duo f h)) ∧ Below ((w.alloc (.cells #[.slice ao lb ca, .slice bo lb cb] 23)).alloc (.cells #[.int .u8 1, .slice ao lb ca, .int .u8 1, .slice bo lb cb] 45)).heap.size ((w.alloc (.cells #[.slice ao lb ca, .slice bo lb cb] 23)).alloc (.cells #[.int .u8 1, .slice ao lb ca, .int .u8 1, .slice bo lb cb] 45)) w') :=
      dsum_any _ _ 2 2 lb _ _ _ _ _ (by omega) (by omega) h1 h2 (trm_duo (by simp) ao bo lb ca lb cb f h (ha.alloc _) (hb.alloc _)) (fun i hi => by unfold duo; split <;> rfl)
    clear ha hb hok
    go_enter Try.func9, Try.ntmps9
    go_wp2_with (first | (go_at_call 21; refine HA.mono ?_; rintro e w' ⟨rfl, hw'⟩; obtain rfl := hw'.symm) | (go_at_call 22; refine HS.out.mono ?_; rintro e w2 ⟨g, rfl, hg, ho, hbel⟩))
    go_ret2
    rw [lin_duo] at ho
    refine ⟨_, _, rfl, .inr ⟨g, rfl, ?_, ho.lt, ho⟩, below_step (below_2 w _ _) hbel (by simp; omega)⟩
    simp at hg
    omega

set_option maxHeartbeats 1000000 in
set_option maxRecDepth 100000 in
theorem concat_any (w : World) (g : Nat) (po qo : Option Addr) (pl pc ql qc : Nat) (PA QA : Nat → Option Addr) (PC PL QC QL : Nat → Nat) (P Q : M) (c0 : w.cell? ⟨g, 0, none⟩ = some (.slice po pl pc)) (c1 : w.cell? ⟨g, 1, none⟩ = some (.slice qo ql qc))
    (hpl : pl ≤ 100) (hql : ql ≤ 100) (hpn : po = none → pl = 0 ∧ pc = 0) (hqn : qo = none → ql = 0 ∧ qc = 0) (hp : Lst w po pl PA PC PL P) (hq : Lst w qo ql QA QC QL Q) :
    Calls Try.prog 25 #[.slice (some ⟨g, 0, none⟩) 2 2] w fun e w' => ∃ ro rc, e = .returned (.slice ro (pl + ql) rc) ∧ Lst w' ro (pl + ql) (cat pl PA QA) (cat pl PC QC) (cat pl PL QL) (cat pl P Q) ∧ Below w.heap.size w w' := by
  have HP : Hid (Lst w po pl PA PC PL P) := hp
  have HQ : Hid (Lst w qo ql QA QC QL Q) := hq
  have HPN : Hid (po = none → pl = 0 ∧ pc = 0) := hpn
  have HQN : Hid (qo = none → ql = 0 ∧ qc = 0) := hqn
  clear hp hq hpn hqn
  go_enter Try.func25, Try.ntmps25
  go_wp2
  go_loop [3, 11] (fun s x => (s = .int .i64 0 ∧ x = .int .i64 0) ∨ (s = .int .i64 (pl : Int) ∧ x = .int .i64 1) ∨ (s = .int .i64 ((pl : Int) + (ql : Int)) ∧ x = .int .i64 2)) (fun _ x => 2 - (intOf x).toNat)
  case atStart => exact .inl ⟨rfl, rfl⟩
  case round =>
    rcases hrel with ⟨rfl, rfl⟩ | ⟨rfl, rfl⟩ | ⟨rfl, rfl⟩
    · go_wp2
      go_round
      case rel => exact .inr (.inl ⟨by go_num, by go_num⟩)
      case measure => simp [intOf]
    · go_wp2
      go_round
      case rel => exact .inr (.inr ⟨by go_num, by go_num⟩)
      case measure => simp [intOf]
    · have HG := grow_any w (pl + ql) (by omega)
      rw [Int.natCast_add] at HG
      go_wp2_with (go_at_call 37; refine HG.mono ?_; rintro e w1 ⟨ao, cap, rfl, hown, hb⟩)
      have HO1 : Hid (w1.ownsRow w.heap.size 23 1 (.slice ao 0 cap) 0 []) := hown
      have HB1 : Hid (Below w.heap.size w w1) := hb
      clear hown hb HG
      go_loopw [6, 27] (fun v x wr => (x = .int .i64 0 ∧ ∃ ao c, v = .slice ao 0 c ∧ Hid (wr.ownsRow w.heap.size 23 1 v 0 []) ∧ Hid (Below w.heap.size w wr)) ∨ (x = .int .i64 1 ∧ ∃ ao c, v = .slice ao pl c ∧ Hid (wr.ownsRow w.heap.size 23 1 v pl (rowsOf pl PA PL PC)) ∧ Hid (Below w.heap.size w wr))
        ∨ (x = .int .i64 2 ∧ ∃ ao c, v = .slice ao (pl + ql) c ∧ Hid (wr.ownsRow w.heap.size 23 1 v (pl + ql) (rowsOf pl PA PL PC ++ rowsOf ql QA QL QC)) ∧ Hid (Below w.heap.size w wr))) (fun _ x _ => 2 - (intOf x).toNat)
      case atStart => exact .inl ⟨rfl, ao, cap, rfl, HO1, HB1⟩
      case round =>
        rcases hrel with ⟨rfl, ao, c, rfl, hown, hbel⟩ | ⟨rfl, ao, c, rfl, hown, hbel⟩ | ⟨rfl, ao, c, rfl, hown, hbel⟩
        · have d0 := held c0 hbel.out
          have hws := hbel.out.size
          have HL : Hid (Lst wr po pl PA PC PL P) := HP.out.below hbel.out
          go_wp2_with (at_builtin; refine wpList_append_list (by rfl) (.tmp 31) (.tmp 32) (by rfl) w.heap.size 0 pl c pc ao po [] PA PL PC P (by rfl) (by rfl) hown.out HPN.out HL.out (by omega) (by omega) (by omega) ?_; intro ao' c' w' hown' hgrow')
          have HO2 : Hid (w'.ownsRow w.heap.size 23 1 (.slice ao' (0 + pl) c') (0 + pl) ([] ++ rowsOf pl PA PL PC)) := hown'
          have HB2 : Hid (Below w.heap.size w w') := hbel.out.grown hgrow' hws (fun r hr => (hown.out.lt r hr).1)
          rw [Nat.zero_add] at HO2
          clear hown' hgrow'
          go_roundw
          case rel => exact .inr (.inl ⟨by go_num, ao', c', rfl, HO2, HB2⟩)
          case measure => simp [intOf]
        · have d0 := held c1 hbel.out
          have hws := hbel.out.size
          have HL : Hid (Lst wr qo ql QA QC QL Q) := HQ.out.below hbel.out
          obtain ⟨XS, hXS⟩ : ∃ X, X = rowsOf pl PA PL PC := ⟨_, rfl⟩
          have HXS : Hid (rowsOf pl PA PL PC = XS) := hXS.symm
          have HO : Hid (wr.ownsRow w.heap.size 23 1 (.slice ao pl c) pl XS) := by rw [hXS]; exact hown.out
          clear hXS hown
          go_wp2_with (at_builtin; refine wpList_append_list (by rfl) (.tmp 31) (.tmp 32) (by rfl) w.heap.size pl ql c qc ao qo XS QA QL QC Q (by rfl) (by rfl) HO.out HQN.out HL.out (by omega) (by omega) (by omega) ?_; intro ao' c' w' hown' hgrow')
          have HO2 : Hid (w'.ownsRow w.heap.size 23 1 (.slice ao' (pl + ql) c') (pl + ql) (rowsOf pl PA PL PC ++ rowsOf ql QA QL QC)) := by rw [HXS.out]; exact hown'
          have HB2 : Hid (Below w.heap.size w w') := hbel.out.grown hgrow' hws (fun r hr => (HO.out.lt r hr).1)
          clear hown' hgrow'
          go_roundw
          case rel => exact .inr (.inr ⟨by go_num, ao', c', rfl, HO2, HB2⟩)
          case measure => simp [intOf]
        · go_wp2
          go_ret
          refine ⟨ao, c, rfl, lst_owns (by rw [← rowsOf_cat]; exact hown.out) fun i hi => ?_, hbel.out⟩
          by_cases e : i < pl
          · rw [cat_lo _ _ e, cat_lo _ _ e, cat_lo _ _ e]
            exact (HP.out.rd i e).below hbel.out
          · obtain ⟨q, rfl⟩ : ∃ q, i = pl + q := ⟨i - pl, by omega⟩
            rw [cat_hi, cat_hi, cat_hi]
            exact (HQ.out.rd q (by omega)).below hbel.out
end Go.Proofs.Ytgflgmkaaidfnaa
