/- What Decode and Verify of the program answer. -/
import Derived.Test.YthkikocacbbhkaaCodI
namespace Go.Proofs.Ythkikocacbbhkaa
open Go.RowKit

theorem rowsOf_join (k r : Nat) (T T' : Nat → Option Addr) (L L' U U' : Nat → Nat) : rowsOf (k + r) (join k T T') (join k L L') (join k U U') = rowsOf k T L U ++ rowsOf r T' L' U' := by
  apply List.ext_getElem?
  intro i
  by_cases e : i < k
  · rw [List.getElem?_append_left (by rw [rowsOf_length]; exact e), rowsOf_get _ _ _ _ _ e, rowsOf_get _ _ _ _ _ (by omega)]
    unfold join
    rw [if_pos e, if_pos e, if_pos e]
  · rw [List.getElem?_append_right (by rw [rowsOf_length]; omega), rowsOf_length]
    by_cases e2 : i - k < r
    · rw [rowsOf_get _ _ _ _ _ e2, rowsOf_get _ _ _ _ _ (by omega)]
      unfold join
      rw [if_neg e, if_neg e, if_neg e]
    · rw [List.getElem?_eq_none (by rw [rowsOf_length]; omega), List.getElem?_eq_none (by rw [rowsOf_length]; omega)]
/-- Cells behind cells, in one list. -/
theorem Copied.join {w w' : World} {B k r : Nat} {v u v' : Value} {T T' : Nat → Option Addr} {L L' U U' : Nat → Nat} {H H' : M} (h : Copied w B k v T L U H) (h' : Copied w B r u T' L' U' H') (hap : ∀ i j a b, i < k → j < r → T i = some a → T' j = some b → a.block ≠ b.block)
    (hg : w.grownBy w' v.ownBlock) (ho : w'.ownsRow B 23 1 v' (k + r) (rowsOf k T L U ++ rowsOf r T' L' U')) : Copied w' B (k + r) v' (join k T T') (join k L L') (join k U U') (join k H H') := by
  refine ⟨by rw [rowsOf_join]; exact ho, fun i hi => ?_, fun i j a b hi hj hne ea eb => ?_⟩
  · unfold Ythkikocacbbhkaa.join
    by_cases e : i < k
    · rw [if_pos e, if_pos e, if_pos e, if_pos e]
      exact (h.row i e).kept hg (owns_apart' (h.row i e) h.out)
    · rw [if_neg e, if_neg e, if_neg e, if_neg e]
      have := h'.row (i - k) (by omega)
      exact this.kept hg (owns_apart' this h.out)
  · unfold Ythkikocacbbhkaa.join at ea eb
    by_cases e : i < k
    · rw [if_pos e] at ea
      by_cases e' : j < k
      · rw [if_pos e'] at eb
        exact h.apart i j a b e e' hne ea eb
      · rw [if_neg e'] at eb
        exact hap i (j - k) a b e (by omega) ea eb
    · rw [if_neg e] at ea
      by_cases e' : j < k
      · rw [if_pos e'] at eb
        exact (hap j (i - k) b a e' (by omega) eb ea).symm
      · rw [if_neg e'] at eb
        exact h'.apart (i - k) (j - k) a b (by omega) (by omega) (by omega) ea eb
theorem join_enc (k : Nat) (D : M) (i : Nat) : Ythkikocacbbhkaa.join k D (par k D) i = enc k D i := by
  unfold Ythkikocacbbhkaa.join par
  by_cases e : i < k
  · rw [if_pos e]; funext b; exact (enc_data D e).symm
  · rw [if_neg e, show k + (i - k) = i by omega]
theorem join_const (k m i : Nat) : Ythkikocacbbhkaa.join k (fun _ => m) (fun _ => m) i = m := by unfold Ythkikocacbbhkaa.join; split <;> rfl

theorem grown_refl (w : World) (row : Option Nat) : w.grownBy w row := ⟨rfl, rfl, rfl, Nat.le_refl _, fun _ _ _ => rfl⟩
/-- Cells appended to cells. -/
theorem wpList_append_join {w : World} {ops : Array Oper} {rest : List Oper} {o : Oper} {a : Act} {Q : Exit → Act → World → Prop} (hgd : o.guard = none) (s x : Operand)
    (ho : o.op = .call { callee := .builtin .append, args := #[s, x], argTypes := #[24, 24] }) (B B' k r ca cb : Nat) (ao bo : Option Addr) (T T' : Nat → Option Addr) (L L' U U' : Nat → Nat) (H H' : M)
    (hs : a.eval s = .slice ao k ca) (hx : a.eval x = .slice bo r cb) (h : Copied w B k (.slice ao k ca) T L U H) (h' : Copied w B' r (.slice bo r cb) T' L' U' H') (hk : k ≤ 1000) (hr : r ≤ 1000) (hB : B ≤ w.heap.size) (hBB : B ≤ B') (hap : ∀ i j a b, i < k → j < r → T i = some a → T' j = some b → a.block ≠ b.block)
    (cont : ∀ ao' c' w', w.grownBy w' (Value.slice ao k ca).ownBlock → Copied w' B (k + r) (.slice ao' (k + r) c') (Ythkikocacbbhkaa.join k T T') (Ythkikocacbbhkaa.join k L L') (Ythkikocacbbhkaa.join k U U') (Ythkikocacbbhkaa.join k H H') → wpList Try.prog ops Q rest (a.put o.dst (.slice ao' (k + r) c')) w') : wpList Try.prog ops Q (o :: rest) a w := by
  obtain ⟨j0, hj, hj0, hj1, hj2⟩ := info_parts info23c
  rcases h'.out.2 with ⟨e, h0⟩ | ⟨g, cap, cur, e, _⟩
  · cases e
    have hc := h.join (h'.base hBB) hap (grown_refl w _) (by rw [show rowsOf 0 T' L' U' = [] from rfl, List.append_nil]; exact h.out)
    exact wpList_append_own_none hgd s x 24 ho B 23 j0 1 Try.underlying24 hj (.slice ao k ca) k (rowsOf k T L U) hs h.out hx (cont ao ca w (grown_refl w _) hc)
  · cases e
    refine wpList_append_own w hgd s x 24 ho B 23 j0 (.slice none 0 0) 1 24 Try.underlying24 hj hj0 hj1 hj2 rfl (by decide) (.slice ao k ca) k (rowsOf k T L U) hs h.out ⟨g, 0, none⟩ r cb (rowsOf r T' L' U') hx (by rw [rowsOf_length, Nat.mul_one]) (h'.out.cells (g := g) rfl) (rowsOf_one _ _ _ _) (by unfold maxLen; omega) (by omega) hB ?_
    intro v' w' h1 h2 _
    obtain ⟨ao', c', rfl⟩ := owns_form h1
    exact cont ao' c' w' h2 (h.join (h'.base hBB) hap h2 h1)

def okDec (ll : Nat) (L : Nat → Nat) (k r : Int) : Bool := mayB k r && (okC ll L (k + r) && decide (k ≤ (cnt L ll : Int)))
def errD (may cells ok : Bool) : Int := if may then (if cells then (if ok then 0 else 5) else 40) else 2

set_option maxHeartbeats 2000000 in
set_option maxRecDepth 100000 in
theorem Decode_any (w : World) (k r : Int) (lo : Option Addr) (ll cl : Nat) (A : Nat → Option Addr) (C L : Nat → Nat) (H : M) (hl : Lst w lo ll A C L H) :
    Calls Try.prog 10 #[.int .i64 k, .int .i64 r, .slice lo ll cl] w (Out w (okDec ll L k r) (errD (mayB k r) (okC ll L (k + r)) (okDec ll L k r)) (k.toNat + r.toNat) (len0 L ll) (enc k.toNat (dec k.toNat (sel L ll) H))) := by
  have HM := may_any w k r
  cases hmay : mayB k r
  · rw [show okDec ll L k r = false by unfold okDec; rw [hmay]; rfl]
    rw [hmay] at HM
    clear hmay
    go_enter Try.func10, Try.ntmps10
    go_wp2_with (go_at_call 23; refine HM.mono ?_; rintro e w' ⟨rfl, rfl⟩)
    go_ret2
    exact Out.no (Below.refl _ _)
  · obtain ⟨h1, h2, h3, h4⟩ := mayB_true hmay
    rw [hmay] at HM
    have HT := there_any w lo ll cl A C L H (k + r) (by omega) hl
    cases hoc : okC ll L (k + r)
    · have HOK : Hid (okDec ll L k r = false) := by show _ = _; unfold okDec; rw [hoc, Bool.false_and, Bool.and_false]
      unfold There at HT
      rw [hoc] at HT
      have e1 : errB false 40 = 40 := rfl
      clear hmay hoc hl
      go_enter Try.func10, Try.ntmps10
      go_wp2_with (first | (go_at_call 23; refine HM.mono ?_; rintro e w' ⟨rfl, rfl⟩) | (go_at_call 24; refine HT.mono ?_; rintro e w1 ⟨ao, cap, rfl, _, _, _, hb⟩))
      go_ret2
      rw [HOK.out]
      exact Out.no hb
    · obtain ⟨hll, hokT⟩ := okC_true hoc
      obtain ⟨k, rfl⟩ := Int.eq_ofNat_of_zero_le (show 0 ≤ k by omega)
      obtain ⟨r, rfl⟩ := Int.eq_ofNat_of_zero_le h3
      obtain rfl : ll = k + r := by omega
      clear hll
      rw [Int.toNat_natCast, Int.toNat_natCast]
      unfold There at HT
      rw [hoc] at HT
      have e1 : errB true 40 = 0 := rfl
      have e2 : lenB true (cnt L (k + r)) = cnt L (k + r) := rfl
      obtain ⟨cn, hcn⟩ : ∃ cn, cn = cnt L (k + r) := ⟨_, rfl⟩
      rw [← hcn] at HT e2
      by_cases hck : cn < k
      · have HOK : Hid (okDec (k + r) L k r = false) := by show _ = _; unfold okDec; rw [show decide ((k : Int) ≤ (cnt L (k + r) : Int)) = false from decide_eq_false (by omega), Bool.and_false, Bool.and_false]
        have hci : (cn : Int) < (k : Int) := by omega
        clear hmay hoc hl hokT hcn
        go_enter Try.func10, Try.ntmps10
        go_wp2_with (first | (go_at_call 23; refine HM.mono ?_; rintro e w' ⟨rfl, rfl⟩) | (go_at_call 24; refine HT.mono ?_; rintro e w1 ⟨ao, cap, rfl, _, _, _, hb⟩))
        go_ret2
        rw [HOK.out]
        exact Out.no hb
      · have HOK : Hid (okDec (k + r) L k r = true) := by show _ = _; unfold okDec; rw [hmay, hoc, show decide ((k : Int) ≤ (cnt L (k + r) : Int)) = true from decide_eq_true (by omega)]; rfl
        obtain ⟨m1, m2, m3⟩ := alike_of hokT (by omega)
        obtain ⟨m, hm⟩ : ∃ m, m = len0 L (k + r) := ⟨_, rfl⟩
        rw [← hm] at m1 m2 m3 ⊢
        have HLm : Hid (∀ i, i < k + r → L i = 0 ∨ L i = m) := m3
        have HSEL : Hid (Sel L (k + r) cn (sel L (k + r))) := by rw [hcn]; exact sel_is L (k + r)
        obtain ⟨R, hR⟩ : ∃ R, R = sel L (k + r) := ⟨_, rfl⟩
        rw [← hR] at HSEL HT ⊢
        have hmm := @run_makeMap Try.prog
        obtain ⟨j0, hj, hj0, hj1, hj2⟩ := info_parts info23c
        have HL : Hid (Lst w lo (k + r) A C L H) := hl
        clear hmay hoc hl hokT m3 hcn hm hR
        go_enter Try.func10, Try.ntmps10
        go_wp2_with (first
          | (go_at_call 23; refine HM.mono ?_; rintro e w' ⟨rfl, rfl⟩)
          | (go_at_call 24; refine HT.mono ?_; rintro e w1 ⟨ao, cap, rfl, hri, hcap, hcm, hb⟩
             obtain ⟨bn, on, rfl, hcc⟩ := hri (by rw [e2]; omega)
             have hk3 : (k : Int) ≤ (cap : Int) := (by rw [e2] at hcap; omega)
             have b1 : Below w1.heap.size w1 (w1.alloc (.map #[] 0)) := (Below.refl _ _).alloc (Nat.le_refl _) _
             have HLA : Hid (Lst (w1.alloc (.map #[] 0)) lo (k + r) A C L H) := (HL.out.below hb).below b1
             have HD := data_any (w1.alloc (.map #[] 0)) w1.heap.size w1.heap.size k r 0 m cn cap lo (some ⟨bn, on, none⟩) cl A C L H R (by omega) (by omega) (by omega) m1 m2 (by omega) (by simp) (Kept.made w1 k r) HLA.out HLm.out HSEL.out (by omega) (fun _ => ⟨bn, on, rfl, fun i hi => held (hcc i (by rw [e2]; omega)) b1⟩)
             clear hri hcc)
          | (go_at_call 26; refine HD.mono ?_; rintro e w2 ⟨ao2, cap2, T, U, rfl, hcop, hkept, hke⟩
             have HC2 : Hid (Copied w2 (w1.alloc (.map #[] 0)).heap.size k (.slice ao2 k cap2) T (fun _ => m) U (dec k R H)) := hcop
             have HKE : Hid (Keeps w1.heap.size (w1.heap.size + 1) (w1.alloc (.map #[] 0)) w2) := hke
             have HP := parity_any w2 w1.heap.size w1.heap.size k r (0 + 12 * k) m ao2 cap2 T U (fun _ => m) (dec k R H) (by omega) (by omega) (by omega) m1 m2 (by omega) (by have := hke.size; simp at this; omega) hkept hcop.lst (fun _ _ => rfl)
             have HKP : Hid (Kept w2 w1.heap.size w1.heap.size k r (0 + 12 * k) 0 0) := hkept
             clear hcop hkept hke)
          | (go_at_call 25; refine HP.mono ?_; rintro e w3 ⟨ao3, cap3, T3, U3, rfl, hcop3, _, hke3⟩
             have HC3 : Hid (Copied w3 w2.heap.size r (.slice ao3 r cap3) T3 (fun _ => m) U3 (par k (dec k R H))) := hcop3
             have HKE3 : Hid (Keeps w1.heap.size (w1.heap.size + 1) w2 w3) := hke3
             have HC2' : Hid (Copied w3 (w1.alloc (.map #[] 0)).heap.size k (.slice ao2 k cap2) T (fun _ => m) U (dec k R H)) := HC2.out.stay (HKP.out.stay hke3)
             have HAP : Hid (∀ i j a b, i < k → j < r → T i = some a → T3 j = some b → a.block ≠ b.block) := (fun i j a b hi hj ea eb => by
               have q1 := HC2.out.old hi ea
               have q2 := ((hcop3.row j hj).lt b.block (by rw [eb]; rfl)).1
               omega)
             clear hcop3 hke3)
          | (at_builtin; refine wpList_append_join (by rfl) (.tmp 40) (.tmp 45) (by rfl) (w1.alloc (.map #[] 0)).heap.size w2.heap.size k r cap2 cap3 ao2 ao3 T T3 (fun _ => m) (fun _ => m) U U3 (dec k R H) (par k (dec k R H)) (by rfl) (by rfl) HC2'.out HC3.out (by omega) (by omega) (Nat.le_trans HKE.out.size HKE3.out.size) HKE.out.size HAP.out ?_; intro ao4 cap4 w4 hg4 hc4))
        go_ret2
        rw [HOK.out]
        have hs1 := HKE.out.size
        refine ⟨ao4, cap4, _, _, rfl, (hc4.congr (fun _ _ => rfl) (fun i _ => join_const k m i) (fun _ _ => rfl) (fun i _ => join_enc k (dec k R H) i)).base (by have := hb.size; simp; omega), ?_⟩
        have b3 : Below w1.heap.size w1 w3 := below_map (HKE.out.trans HKE3.out)
        have b4 : Below w1.heap.size w1 w4 := b3.trans (grown_below hg4 b3.size (fun q hq => by have := (HC2'.out.out.lt q hq).1; simp at this; omega))
        exact below_step hb b4 hb.size
end Go.Proofs.Ythkikocacbbhkaa
