/- Lists of slices that are put together; cells of which some are taken away; what is told of cells that fit and of cells that do not. -/
import Derived.Test.YthkikocacbbhkaaCodM
namespace Go.Proofs.Ythkikocacbbhkaa
open Go.RowKit

theorem owns_lst {w : World} {base ll cap : Nat} {to : Option Addr} {T : Nat → Option Addr} {L U : Nat → Nat} {H : M} (h : w.ownsRow base 23 1 (.slice to ll cap) ll (rowsOf ll T L U)) (hr : ∀ i, i < ll → Rd w (T i) (L i) (H i)) : Lst w to ll T U L H := by
  refine ⟨hr, fun hp => ?_⟩
  rcases h.2 with ⟨_, h1⟩ | ⟨g, cap', cur, h1, _⟩
  · omega
  · cases h1
    refine ⟨g, 0, rfl, fun i hi => ?_⟩
    have := h.cells (g := g) rfl i _ (rowsOf_get ll T L U i hi)
    rwa [Addr.add_lit] at this
/-- A list of slices appended to a list. -/
theorem wpList_append_lst {w : World} {ops : Array Oper} {rest : List Oper} {o : Oper} {a : Act} {Q : Exit → Act → World → Prop} (hgd : o.guard = none) (s x : Operand)
    (ho : o.op = .call { callee := .builtin .append, args := #[s, x], argTypes := #[24, 24] }) (base n r cx : Nat) (v : Value) (xs : List Value) (xo : Option Addr) (T : Nat → Option Addr) (L U : Nat → Nat) (H : M)
    (hs : a.eval s = v) (hx : a.eval x = .slice xo r cx) (hv : w.ownsRow base 23 1 v n xs) (hl : Lst w xo r T U L H) (hnil : xo = none → cx = 0) (hn : n ≤ 1000) (hr : r ≤ 1000) (hB : base ≤ w.heap.size)
    (cont : ∀ ao' c' w', w'.ownsRow base 23 1 (.slice ao' (n + r) c') (n + r) (xs ++ rowsOf r T L U) → w.grownBy w' v.ownBlock → wpList Try.prog ops Q rest (a.put o.dst (.slice ao' (n + r) c')) w') : wpList Try.prog ops Q (o :: rest) a w := by
  obtain ⟨j0, hj, hj0, hj1, hj2⟩ := info_parts info23c
  cases xo with
  | none =>
    have hc := hnil rfl
    have h0 : r = 0 := by
      rcases Nat.eq_zero_or_pos r with e | e
      · exact e
      · obtain ⟨b, off, e', _⟩ := hl.at_ e; cases e'
    subst hc h0
    obtain ⟨ao, cap, rfl⟩ := owns_form hv
    refine wpList_append_own_none hgd s x 24 ho base 23 j0 1 Try.underlying24 hj (.slice ao n cap) n xs hs hv hx ?_
    exact cont ao cap w (by rw [show rowsOf 0 T L U = [] from rfl, List.append_nil]; exact hv) (grown_refl w _)
  | some ad =>
    refine wpList_append_own w hgd s x 24 ho base 23 j0 (.slice none 0 0) 1 24 Try.underlying24 hj hj0 hj1 hj2 rfl (by decide) v n xs hs hv ad r cx (rowsOf r T L U) hx (by rw [rowsOf_length, Nat.mul_one]) (fun j u hu => ?_) (rowsOf_one _ _ _ _) (by unfold maxLen; omega) (by omega) hB ?_
    · have hjr : j < r := list_lt (rowsOf_length _ _ _ _) hu
      rw [rowsOf_get _ _ _ _ _ hjr] at hu
      obtain ⟨b, off, e, hc⟩ := hl.at_ (by omega)
      cases e
      rw [Addr.add_lit, hc j hjr]; exact hu
    · intro v' w' h1 h2 _
      obtain ⟨ao', c', rfl⟩ := owns_form h1
      exact cont ao' c' w' h1 h2

/-- Where a length is 0 there is no slice. -/
def nilA (L : Nat → Nat) (A : Nat → Option Addr) (j : Nat) : Option Addr := if L j = 0 then none else A j
def nilC (L : Nat → Nat) (C : Nat → Nat) (j : Nat) : Nat := if L j = 0 then 0 else C j
theorem cnt_put {L : Nat → Nat} {n : Nat} (h : L n ≠ 0) : ∀ N, (n < N → cnt (put n 0 L) N + 1 = cnt L N) ∧ (N ≤ n → cnt (put n 0 L) N = cnt L N) := by
  intro N
  induction N with
  | zero => exact ⟨fun h => absurd h (Nat.not_lt_zero n), fun _ => rfl⟩
  | succ N ih =>
    by_cases e : N = n
    · subst e
      refine ⟨fun _ => ?_, fun h => by omega⟩
      rw [cnt_skip (put_at N 0 L), cnt_take h, ih.2 (Nat.le_refl _)]
    · have hp : put n 0 L N = L N := put_ne _ _ e
      by_cases z : L N = 0
      · rw [cnt_skip z, cnt_skip (by rw [hp]; exact z)]
        exact ⟨fun h => ih.1 (by omega), fun h => ih.2 (by omega)⟩
      · rw [cnt_take z, cnt_take (by rw [hp]; exact z)]
        exact ⟨fun h => by have := ih.1 (by omega); omega, fun h => by have := ih.2 (by omega); omega⟩
theorem okT_of {L : Nat → Nat} {m n : Nat} (hm : m ≠ 0) (h : m ≤ 65536) (hL : ∀ i, i < n → L i = 0 ∨ L i = m) : okT L n = true ∧ (len0 L n = 0 ∨ len0 L n = m) := by
  induction n with
  | zero => exact ⟨rfl, .inl rfl⟩
  | succ n ih =>
    obtain ⟨h1, h2⟩ := ih fun i hi => hL i (by omega)
    have h3 := hL n (by omega)
    have h4 : len0 L (n + 1) = 0 ∨ len0 L (n + 1) = m := by
      rw [len0]
      rcases h2 with e | e
      · rw [if_pos e]; exact h3
      · rw [if_neg (by omega)]; exact .inr e
    refine ⟨okT_succ h1 ?_, h4⟩
    rcases h3 with e | e
    · exact .inl e
    · refine .inr ⟨by omega, ?_⟩
      rw [len0]
      rcases h2 with e' | e'
      · rw [if_pos e']
      · rw [if_neg (by omega), e, e']
/-- The cells of a code, some of them taken away, at least k of them left: Decode gives all of them. -/
theorem decode_some (w : World) (k r m cl : Nat) (lo : Option Addr) (A : Nat → Option Addr) (C L : Nat → Nat) (D : M) (hk1 : 1 ≤ k) (hk : k ≤ 12) (hr : r ≤ 4) (hm1 : 1 ≤ m) (hm : m ≤ 65536) (hl : Lst w lo (k + r) A C L (enc k D)) (hL : ∀ i, i < k + r → L i = 0 ∨ L i = m) (hc : k ≤ cnt L (k + r)) :
    Calls Try.prog 10 #[.int .i64 (k : Int), .int .i64 (r : Int), .slice lo (k + r) cl] w fun e w' => ∃ l cap G U, e = .returned (.tuple #[.slice (some ⟨l, 0, none⟩) (k + r) cap, .int .i64 0]) ∧ Mat w' w.heap.size w'.heap.size l cap (k + r) m G U (enc k D) ∧ Below w.heap.size w w' := by
  have HD := Decode_any w k r lo (k + r) cl A C L _ hl
  obtain ⟨h1, h2⟩ := okT_of (by omega) hm hL
  have h3 : mayB k r = true := decide_eq_true (by omega)
  have h4 : okC (k + r) L ((k : Int) + (r : Int)) = true := by unfold okC; rw [h1]; simp
  have h5 : okDec (k + r) L k r = true := by unfold okDec; rw [h3, h4]; simp; omega
  have h6 : len0 L (k + r) = m := by
    rcases len0_sel L (k + r) with ⟨e, _⟩ | ⟨_, _, e⟩
    · omega
    · exact h2.resolve_left e
  rw [h3, h4, h5, h6, Int.toNat_natCast, Int.toNat_natCast] at HD
  refine HD.mono ?_
  intro e w' h
  obtain ⟨l, cap, G, U, he, hm', hb⟩ := h.mat (by omega) hm1
  refine ⟨l, cap, G, U, he, hm'.congr fun i j _ _ => ?_, hb⟩
  refine enc_congr (fun x hx => ?_) i
  exact dec_enc _ D hk (show k + r ≤ 16 by omega) (fun s hs => (sel_is L (k + r)).lt s (by omega)) (fun s s' q1 q2 => (sel_is L (k + r)).rise s s' q1 (by omega)) j (fun _ _ => rfl) x hx
theorem verify_lst (w : World) (k r m cap : Nat) (lo : Option Addr) (A : Nat → Option Addr) (C : Nat → Nat) (H : M) (hk1 : 1 ≤ k) (hk : k ≤ 12) (hr : r ≤ 4) (hm1 : 1 ≤ m) (hm : m ≤ 65536) (h : Lst w lo (k + r) A C (fun _ => m) H) (hc : k + r ≤ cap) :
    Calls Try.prog 11 #[.int .i64 (k : Int), .int .i64 (r : Int), .slice lo (k + r) cap] w fun e w' => e = .returned (.tuple #[.bool (verB k r m H), .int .i64 0]) ∧ Below w.heap.size w w' := by
  have HV := Verify_any w k r lo (k + r) cap _ _ _ _ h hc
  obtain ⟨h1, h2⟩ := okVer_const (k := k) (r := r) hk1 hk hr hm1 hm
  rw [h1, h2, Int.toNat_natCast, Int.toNat_natCast, Bool.true_and, len0_const (by omega) (k + r) (by omega)] at HV
  exact HV
/-- One byte of the first parity cell is another one: then the cells do not fit. -/
theorem ver_wrong {k r m : Nat} (D : M) (y : K) (hr : 0 < r) (hm : 0 < m) (hy : y ≠ enc k D k 0) : verB k r m (fun i b => if i = k ∧ b = 0 then y else enc k D i b) = false := by
  refine decide_eq_false fun h => hy ?_
  have h1 := eqB_true.1 (h 0 hr) 0 hm
  have h2 : par k (fun i b => if i = k ∧ b = 0 then y else enc k D i b) 0 0 = enc k D k 0 := by
    refine (enc_congr (fun j hj => ?_) (k + 0)).trans (show enc k (enc k D) k 0 = _ from enc_congr (fun j hj => enc_data D hj) k)
    rw [if_neg (by omega)]
  rw [h2] at h1
  rw [h1]
  simp
theorem add_one_ne (x : K) : K.add x (K.of 1) ≠ x := fun e => by
  have h1 : K.add (K.add x (K.of 1)) x = K.add x x := by rw [e]
  rw [K.add_self, K.add_comm x, K.add_assoc, K.add_self, K.add_zero] at h1
  exact absurd (congrArg K.n h1) (by decide)
theorem sameAll_k (w : World) (ao bo : Option Addr) (ll ca cb : Nat) (A B : Nat → Option Addr) (C D L : Nat → Nat) (H H' : M) (hll : ll ≤ 1000000) (ha : Lst w ao ll A C L H) (hb : Lst w bo ll B D L H') (hH : ∀ i j, i < ll → j < L i → H' i j = H i j) :
    Calls Try.prog 19 #[.slice ao ll ca, .slice bo ll cb] w fun e w' => e = .returned (.bool true) ∧ Below w.heap.size w w' :=
  Ker.sameAll_any w ao bo ll ca cb A B C D L _ hll (lst_ker ha) (lst_ker (hb.congr hH))
theorem neq_nil_yes (w : World) (a : Addr) (l c : Nat) : (binOp .neq 23 (.slice (some a) l c) (.slice none 0 0)).run Try.prog w = .ok (.bool true) w := run_neq_slice_nil w 23 5 (some a) l c Try.underlying23
theorem neq_nil_no (w : World) : (binOp .neq 23 (.slice none 0 0) (.slice none 0 0)).run Try.prog w = .ok (.bool false) w := run_neq_slice_nil w 23 5 none 0 0 Try.underlying23
end Go.Proofs.Ythkikocacbbhkaa
