/- What Decode and Verify of the program answer. -/
import Derived.Test.YtgflgmkaaidfnaaCodI
import Derived.Test.YtgflgmkaaidfnaaMatT
namespace Go.Proofs.Ytgflgmkaaidfnaa
open Go.RowKit

theorem rowsOf_join (k r : Nat) (T T' : Nat → Option Addr) (L L' U U' : Nat → Nat) : rowsOf (k + r) (join k T T') (join k L L') (join k U U') = rowsOf k T L U ++ rowsOf r T' L' U' := by
  apply List.ext_getElem?
  intro i
  by_cases e : i < k
  · rw [List.getElem?_append_left (by rw [rowsOf_length]; exact e), rowsOf_get _ _ _ _ _ e, rowsOf_get _ _ _ _ _ (by omega)]
    unfold join
    rw [if_pos e, if_pos e, if_pos e]
  · rw [List.getElem?_append_right (by rw [rowsOf_length]; omega), rowsOf_length]
    by_cases e2 : i - k < r
    · rw [rowsOf_get _ _ _ _ _ e2, rowsOf_get _ _ _ _ _ (by omega)]
      unfold join
      rw [if_neg e, if_neg e, if_neg e]
    · rw [List.getElem?_eq_none (by rw [rowsOf_length]; omega), List.getElem?_eq_none (by rw [rowsOf_length]; omega)]
/-- Cells behind cells, in one list. -/
theorem Copied.join {w w' : World} {B k r : Nat} {v u v' : Value} {T T' : Nat → Option Addr} {L L' U U' : Nat → Nat} {H H' : M} (h : Copied w B k v T L U H) (h' : Copied w B r u T' L' U' H') (hap : ∀ i j a b, i < k → j < r → T i = some a → T' j = some b → a.block ≠ b.block)
    (hg : w.grownBy w' v.ownBlock) (ho : w'.ownsRow B 23 1 v' (k + r) (rowsOf k T L U ++ rowsOf r T' L' U')) : Copied w' B (k + r) v' (join k T T') (join k L L') (join k U U') (join k H H') := by
  refine ⟨by rw [rowsOf_join]; exact ho, fun i hi => ?_, fun i j a b hi hj hne ea eb => ?_⟩
  · unfold Ytgflgmkaaidfnaa.join
    by_cases e : i < k
    · rw [if_pos e, if_pos e, if_pos e, if_pos e]
      exact (h.row i e).kept hg (owns_apart' (h.row i e) h.out)
    · rw [if_neg e, if_neg e, if_neg e, if_neg e]
      have := h'.row (i - k) (by omega)
      exact this.kept hg (owns_apart' this h.out)
  · unfold Ytgflgmkaaidfnaa.join at ea eb
    by_cases e : i < k
    · rw [if_pos e] at ea
      by_cases e' : j < k
      · rw [if_pos e'] at eb
        exact h.apart i j a b e e' hne ea eb
      · rw [if_neg e'] at eb
        exact hap i (j - k) a b e (by omega) ea eb
    · rw [if_neg e] at ea
      by_cases e' : j < k
      · rw [if_pos e'] at eb
        exact (hap j (i - k) b a e' (by omega) eb ea).symm
      · rw [if_neg e'] at eb
        exact h'.apart (i - k) (j - k) a b (by omega) (by omega) (by omega) ea eb
theorem join_enc (k : Nat) (D : M) (i : Nat) : Ytgflgmkaaidfnaa.join k D (par k D) i = enc k D i := by
  unfold Ytgflgmkaaidfnaa.join par
  by_cases e : i < k
  · rw [if_pos e]; funext b; exact (enc_data D e).symm
  · rw [if_neg e, show k + (i - k) = i by omega]
theorem join_const (k m i : Nat) : Ytgflgmkaaidfnaa.join k (fun _ => m) (fun _ => m) i = m := by unfold Ytgflgmkaaidfnaa.join; split <;> rfl

theorem grown_refl (w : World) (row : Option Nat) : w.grownBy w row := ⟨rfl, rfl, rfl, Nat.le_refl _, fun _ _ _ => rfl⟩
/-- Cells appended to cells. -/
theorem wpList_append_join {w : World} {ops : Array Oper} {rest : List Oper} {o : Oper} {a : Act} {Q : Exit → Act → World → Prop} (hgd : o.guard = none) (s x : Operand)
    (ho : o.op = .call { callee := .builtin .append, args := #[s, x], argTypes := #[27, 27] }) (B B' k r ca cb : Nat) (ao bo : Option Addr) (T T' : Nat → Option Addr) (L L' U U' : Nat → Nat) (H H' : M)
    (hs : a.eval s = .slice ao k ca) (hx : a.eval x = .slice bo r cb) (h : Copied w B k (.slice ao k ca) T L U H) (h' : Copied w B' r (.slice bo r cb) T' L' U' H') (hk : k ≤ 1000) (hr : r ≤ 1000) (hB : B ≤ w.heap.size) (hBB : B ≤ B') (hap : ∀ i j a b, i < k → j < r → T i = some a → T' j = some b → a.block ≠ b.block)
    (cont : ∀ ao' c' w', w.grownBy w' (Value.slice ao k ca).ownBlock → Copied w' B (k + r) (.slice ao' (k + r) c') (Ytgflgmkaaidfnaa.join k T T') (Ytgflgmkaaidfnaa.join k L L') (Ytgflgmkaaidfnaa.join k U U') (Ytgflgmkaaidfnaa.join k H H') → wpList Try.prog ops Q rest (a.put o.dst (.slice ao' (k + r) c')) w') : wpList Try.prog ops Q (o :: rest) a w := by
  obtain ⟨j0, hj, hj0, hj1, hj2⟩ := info_parts info23c
  rcases h'.out.2 with ⟨e, h0⟩ | ⟨g, cap, cur, e, _⟩
  · cases e
    have hc := h.join (h'.base hBB) hap (grown_refl w _) (by rw [show rowsOf 0 T' L' U' = [] from rfl, List.append_nil]; exact h.out)
    exact wpList_append_own_none hgd s x 27 ho B 23 j0 1 Try.underlying27 hj (.slice ao k ca) k (rowsOf k T L U) hs h.out hx (cont ao ca w (grown_refl w _) hc)
  · cases e
    refine wpList_append_own w hgd s x 27 ho B 23 j0 (.slice none 0 0) 1 24 Try.underlying27 hj hj0 hj1 hj2 rfl (by decide) (.slice ao k ca) k (rowsOf k T L U) hs h.out ⟨g, 0, none⟩ r cb (rowsOf r T' L' U') hx (by rw [rowsOf_length, Nat.mul_one]) (h'.out.cells (g := g) rfl) (rowsOf_one _ _ _ _) (by unfold maxLen; omega) (by omega) hB ?_
    intro v' w' h1 h2 _
    obtain ⟨ao', c', rfl⟩ := owns_form h1
    exact cont ao' c' w' h2 (h.join (h'.base hBB) hap h2 h1)

def okDec (ll : Nat) (L : Nat → Nat) (k r : Int) : Bool := mayB k r && (okC ll L (k + r) && decide (k ≤ (cnt L ll : Int)))
def errD (may cells ok : Bool) : Int := if may then (if cells then (if ok then 0 else 5) else 40) else 2

end Go.Proofs.Ytgflgmkaaidfnaa

/- What Verify of the program answers. -/
namespace Go.Proofs.Ytgflgmkaaidfnaa
open Go.RowKit

def okVer (ll : Nat) (L : Nat → Nat) (k r : Int) : Bool := mayB k r && (okC ll L (k + r) && decide (k + r ≤ (cnt L ll : Int)))
/-- Whether the parity cells are those that the data cells make. -/
def verB (k r m : Nat) (H : M) : Bool := eqAll r m (par k H) (fun i => H (k + i))
def Told2 (w : World) (v : Bool) (err : Int) (e : Ending) (w' : World) : Prop := e = .returned (.tuple #[.bool v, .int .i64 err]) ∧ Below w.heap.size w w'
theorem Lst.from {w : World} {b off : Nat} {k r : Nat} {A : Nat → Option Addr} {C L : Nat → Nat} {H : M} (h : Lst w (some ⟨b, off, none⟩) (k + r) A C L H) : Lst w (some ⟨b, off + k, none⟩) r (fun i => A (k + i)) (fun i => C (k + i)) (fun i => L (k + i)) (fun i => H (k + i)) :=
  ⟨fun i hi => h.rd (k + i) (by omega), fun hp => by
    obtain ⟨b', off', e, hc⟩ := h.at_ (by omega)
    cases e
    exact ⟨b, off + k, rfl, fun i hi => by rw [Nat.add_assoc]; exact hc (k + i) (by omega)⟩⟩
theorem Lst.upto {w : World} {lo : Option Addr} {k r : Nat} {A : Nat → Option Addr} {C L : Nat → Nat} {H : M} (h : Lst w lo (k + r) A C L H) : Lst w lo k A C L H :=
  ⟨fun i hi => h.rd i (by omega), fun hp => by
    obtain ⟨b', off', e, hc⟩ := h.at_ (by omega)
    exact ⟨b', off', e, fun i hi => hc i (by omega)⟩⟩

end Go.Proofs.Ytgflgmkaaidfnaa

/- The answers that the document fixes: the program gives them. -/
namespace Go.Proofs.Ytgflgmkaaidfnaa
open Go.RowKit

theorem Out.mat {w w' : World} {err : Int} {n m : Nat} {H : M} {e : Ending} (h : Out w true err n m H e w') (hn : 0 < n) (hm : 0 < m) :
    ∃ l cap G U, e = .returned (.tuple #[.slice (some ⟨l, 0, none⟩) n cap, .int .i64 err]) ∧ Mat w' w.heap.size w'.heap.size l cap n m G U H ∧ Below w.heap.size w w' := by
  obtain ⟨ao, cap, T, U, rfl, hc, hb⟩ := h
  obtain ⟨l, G, rfl, hm⟩ := Copied.mat hc (fun _ _ => rfl) hm hn
  exact ⟨l, cap, G, U, rfl, hm, hb⟩
theorem cnt_const {m : Nat} (hm : m ≠ 0) (n : Nat) : cnt (fun _ => m) n = n := cnt_full fun _ _ => hm
theorem len0_const {m : Nat} (hm : m ≠ 0) (n : Nat) (hn : 0 < n) : len0 (fun _ => m) n = m := by
  rcases len0_sel (fun _ => m) n with ⟨h1, _⟩ | ⟨_, h2, _⟩
  · rw [cnt_const hm] at h1; omega
  · exact h2
theorem okT_const {m : Nat} (hm : m ≠ 0) (h : m ≤ 65536) (n : Nat) : okT (fun _ => m) n = true := by
  induction n with
  | zero => rfl
  | succ n ih => exact okT_succ ih (.inr ⟨h, (len0_const hm (n + 1) (by omega)).symm⟩)
theorem ver_enc (k r m : Nat) (D : M) : verB k r m (enc k D) = true := by
  refine decide_eq_true fun i _ => eqB_true.2 fun b _ => ?_
  exact enc_congr (fun j hj => enc_data D hj) (k + i)
theorem mat_val {w : World} {B T l cl rows cols : Nat} {G U : Nat → Nat} {H : M} (h : Mat w B T l cl rows cols G U H) (i j v : Nat) (hi : i < rows) (hj : j < cols) (e : (H i j).n = v) : w.cell? ⟨G i, j, none⟩ = some (.int .u8 (v : Int)) := val_of ((h.row i hi).cell hj) e
theorem rd_none (w : World) (f : Nat → K) : Rd w none 0 f := fun h => absurd h (Nat.lt_irrefl 0)
theorem below_allocs {w w1 : World} (h : Below w.heap.size w w1) (o : Obj) : Below w.heap.size w (w1.alloc o) := h.alloc h.size o
theorem dec_alive : (enc 2 (dec 2 (sel (three 0 1 1) 3) (three (fun _ => 0) (lit [7]) (lit [9]))) 0 0).n = 227 := by decide +kernel
theorem dec_alive' : (enc 2 (dec 2 (sel (three 0 1 1) 3) (three (fun _ => 0) (lit [7]) (lit [9]))) 1 0).n = 7 := by decide +kernel
theorem par_alive : (par 2 (two (lit [1]) (lit [0])) 0 0).n = 142 := by decide +kernel
theorem gen_alive : (gen 2 2 0).n = 142 ∧ (gen 2 2 1).n = 244 := by decide +kernel

end Go.Proofs.Ytgflgmkaaidfnaa

/- Whether there are more cells than are gone through; and the walk of the statement that what is decoded fits. -/
namespace Go.Proofs.Ytgflgmkaaidfnaa
open Go.RowKit

def fewC (n : Nat) : Prop := n ≤ 3000 ∨ (65536 < n ∧ n ≤ 70000)
theorem fewC_dec (n : Nat) : fewC n ∨ (3000 < n ∧ n ≤ 65536) ∨ 70000 < n := by unfold fewC; omega
def fewB (ll : Nat) (L : Nat → Nat) : Bool := decide (ll ≤ 60 ∧ ∀ i, i < ll → L i ≤ 3000 ∨ (65536 < L i ∧ L i ≤ 70000))
theorem fewB_true {ll : Nat} {L : Nat → Nat} (h : fewB ll L = true) : ll ≤ 60 ∧ ∀ i, i < ll → L i ≤ 3000 ∨ (65536 < L i ∧ L i ≤ 70000) := of_decide_eq_true h
set_option maxHeartbeats 1000000 in
set_option maxRecDepth 100000 in
theorem much_any (w : World) (lo : Option Addr) (ll cl : Nat) (A : Nat → Option Addr) (C L : Nat → Nat) (H : M) (hl : Lst w lo ll A C L H) :
    Calls Try.prog 12 #[.slice lo ll cl] w fun e w' => e = .returned (.bool (!fewB ll L)) ∧ w' = w := by
  by_cases h1 : ll ≤ 60
  · by_cases h2 : ∀ i, i < ll → L i ≤ 3000 ∨ (65536 < L i ∧ L i ≤ 70000)
    · rw [show fewB ll L = true from decide_eq_true ⟨h1, h2⟩]
      have HL : Hid (Lst w lo ll A C L H) := hl
      have HS : Hid (∀ i, i < ll → L i ≤ 3000 ∨ (65536 < L i ∧ L i ≤ 70000)) := h2
      clear hl h2
      go_enter Try.func12, Try.ntmps12
      go_wp2
      go_loop [3] (fun i => ∃ k : Nat, k ≤ ll ∧ i = .int .i64 k) (fun i => ll - (intOf i).toNat)
      case atStart => exact ⟨0, Nat.zero_le _, rfl⟩
      case round =>
        obtain ⟨k, hk, rfl⟩ := hrel
        by_cases hlt : k < ll
        · obtain ⟨b, off, rfl, hcl⟩ := HL.out.at_ (by omega)
          have ck := hcl k hlt
          clear hcl
          rcases HS.out k hlt with hs | ⟨hs, hs'⟩
          · go_wp2
            go_round
            case rel => exact ⟨k + 1, by omega, by go_num⟩
            case measure => simp [intOf]; omega
          · go_wp2
            go_round
            case rel => exact ⟨k + 1, by omega, by go_num⟩
            case measure => simp [intOf]; omega
        · go_wp2
          go_ret
          exact ⟨rfl, rfl⟩
    · rw [show fewB ll L = false from decide_eq_false fun h => h2 h.2]
      obtain ⟨q, hq, hne, heq⟩ := first_not h2
      have HE : Hid (∀ i, i < q → L i ≤ 3000 ∨ (65536 < L i ∧ L i ≤ 70000)) := heq
      have HNE : Hid (¬ (L q ≤ 3000 ∨ (65536 < L q ∧ L q ≤ 70000))) := hne
      obtain ⟨b, off, rfl, hcl⟩ := hl.at_ (by omega)
      have HCL : Hid (∀ i, i < ll → w.cell? ⟨b, off + i, none⟩ = some (.slice (A i) (L i) (C i))) := hcl
      clear hcl h2 heq hne hl
      go_enter Try.func12, Try.ntmps12
      go_wp2
      go_loop [3] (fun i => ∃ k : Nat, k ≤ q ∧ i = .int .i64 k) (fun i => ll - (intOf i).toNat)
      case atStart => exact ⟨0, Nat.zero_le _, rfl⟩
      case round =>
        obtain ⟨k, hk, rfl⟩ := hrel
        have ck := HCL.out k (by omega)
        by_cases hlt : k < q
        · rcases HE.out k hlt with hs | ⟨hs, hs'⟩
          · go_wp2
            go_round
            case rel => exact ⟨k + 1, by omega, by go_num⟩
            case measure => simp [intOf]; omega
          · go_wp2
            go_round
            case rel => exact ⟨k + 1, by omega, by go_num⟩
            case measure => simp [intOf]; omega
        · obtain rfl : k = q := by omega
          have hn := HNE.out
          by_cases hs : L k ≤ 65536
          · have hs2 : 3000 < L k := by omega
            go_wp2
            go_ret
            exact ⟨rfl, rfl⟩
          · have hs2 : 70000 < L k := by omega
            go_wp2
            go_ret
            exact ⟨rfl, rfl⟩
  · rw [show fewB ll L = false from decide_eq_false fun h => h1 h.1]
    clear hl
    go_enter Try.func12, Try.ntmps12
    go_wp2
    go_ret
    exact ⟨rfl, rfl⟩
theorem okDec_true {ll : Nat} {L : Nat → Nat} {k r : Int} (h : okDec ll L k r = true) : mayB k r = true ∧ okC ll L (k + r) = true ∧ k ≤ (cnt L ll : Int) := by
  unfold okDec at h
  rw [Bool.and_eq_true, Bool.and_eq_true, decide_eq_true_eq] at h
  exact h
/-- Decode, where it answers cells: they are those of a code, in memory of their own. -/
theorem decode_good {w w' : World} {k r : Int} {ll : Nat} {L : Nat → Nat} {H : M} {e : Ending} (hok : okDec ll L k r = true) (h : Out w (okDec ll L k r) (errD (mayB k r) (okC ll L (k + r)) (okDec ll L k r)) (k.toNat + r.toNat) (len0 L ll) (enc k.toNat (dec k.toNat (sel L ll) H)) e w') :
    ∃ (k' r' m l cap : Nat) (G U : Nat → Nat), k = (k' : Int) ∧ r = (r' : Int) ∧ 1 ≤ k' ∧ k' ≤ 12 ∧ r' ≤ 4 ∧ ll = k' + r' ∧ m = len0 L ll ∧ 1 ≤ m ∧ m ≤ 65536 ∧ okT L ll = true ∧ k' ≤ cnt L ll ∧ e = .returned (.tuple #[.slice (some ⟨l, 0, none⟩) (k' + r') cap, .int .i64 0]) ∧ Mat w' w.heap.size w'.heap.size l cap (k' + r') m G U (enc k' (dec k' (sel L ll) H)) ∧ Below w.heap.size w w' := by
  obtain ⟨h1, h2, h3⟩ := okDec_true hok
  obtain ⟨g1, g2, g3, g4⟩ := mayB_true h1
  obtain ⟨hll, hT⟩ := okC_true h2
  obtain ⟨k, rfl⟩ := Int.eq_ofNat_of_zero_le (show 0 ≤ k by omega)
  obtain ⟨r, rfl⟩ := Int.eq_ofNat_of_zero_le g3
  obtain ⟨m1, m2, _⟩ := alike_of hT (by omega)
  rw [hok, h1, h2, Int.toNat_natCast, Int.toNat_natCast] at h
  obtain ⟨l, cap, G, U, he, hm, hb⟩ := h.mat (by omega) m1
  exact ⟨k, r, _, l, cap, G, U, rfl, rfl, by omega, by omega, by omega, by omega, rfl, m1, m2, hT, by omega, he, hm, hb⟩
theorem okVer_const {k r m : Nat} (hk1 : 1 ≤ k) (hk : k ≤ 12) (hr : r ≤ 4) (hm1 : 1 ≤ m) (hm : m ≤ 65536) : mayB k r = true ∧ okVer (k + r) (fun _ => m) k r = true := by
  have h1 : mayB k r = true := decide_eq_true (by omega)
  refine ⟨h1, ?_⟩
  unfold okVer okC
  rw [h1, okT_const (by omega) hm, cnt_const (by omega)]
  simp
theorem errD_no (a b : Bool) : errD a b false ≠ 0 := by cases a <;> cases b <;> decide
theorem sel_at {L : Nat → Nat} {i n : Nat} (hi : i < n) (h : L i ≠ 0) : sel L n (cnt L i) = i := by
  rw [sel_prefix L (show i + 1 ≤ n by omega) (by rw [cnt_take h]; omega), sel_take h, put_at]

end Go.Proofs.Ytgflgmkaaidfnaa

/- The walk of the statement that parity is made by its rows, and that of a sum is the sum of both. -/
namespace Go.Proofs.Ytgflgmkaaidfnaa
open Go.RowKit

theorem errE_no (a : Bool) : errE a false ≠ 0 := by cases a <;> decide
theorem okEnc_true {ll : Nat} {L : Nat → Nat} {k r : Int} (h : okEnc ll L k r = true) : mayB k r = true ∧ okC ll L k = true ∧ k ≤ (cnt L ll : Int) := by
  unfold okEnc at h
  rw [Bool.and_eq_true, Bool.and_eq_true, decide_eq_true_eq] at h
  exact h
theorem encode_good {w w' : World} {k r : Int} {ll : Nat} {L : Nat → Nat} {H : M} {e : Ending} (hok : okEnc ll L k r = true) (h : Out w (okEnc ll L k r) (errE (mayB k r) (okEnc ll L k r)) r.toNat (len0 L ll) (par k.toNat H) e w') :
    ∃ (k' r' m : Nat) (ao : Option Addr) (cap : Nat) (T : Nat → Option Addr) (U : Nat → Nat), k = (k' : Int) ∧ r = (r' : Int) ∧ 1 ≤ k' ∧ k' ≤ 12 ∧ r' ≤ 4 ∧ ll = k' ∧ 1 ≤ m ∧ m ≤ 65536 ∧ (∀ i, i < k' → L i = m) ∧ e = .returned (.tuple #[.slice ao r' cap, .int .i64 0]) ∧ Copied w' w.heap.size r' (.slice ao r' cap) T (fun _ => m) U (par k' H) ∧ Below w.heap.size w w' := by
  obtain ⟨h1, h2, h3⟩ := okEnc_true hok
  obtain ⟨g1, g2, g3, g4⟩ := mayB_true h1
  obtain ⟨hll, hT⟩ := okC_true h2
  obtain ⟨k, rfl⟩ := Int.eq_ofNat_of_zero_le (show 0 ≤ k by omega)
  obtain ⟨r, rfl⟩ := Int.eq_ofNat_of_zero_le g3
  obtain rfl : ll = k := by omega
  obtain ⟨m1, m2, m3⟩ := alike_of hT (by omega)
  rw [hok, h1, Int.toNat_natCast, Int.toNat_natCast] at h
  obtain ⟨ao, cap, T, U, he, hc, hb⟩ := h
  exact ⟨ll, r, _, ao, cap, T, U, rfl, rfl, by omega, by omega, by omega, rfl, m1, m2, fun i hi => (m3 i hi).resolve_left (all_there (by omega) i hi), he, hc, hb⟩
theorem encode_const (w : World) (k r m cl : Nat) (lo : Option Addr) (A : Nat → Option Addr) (C : Nat → Nat) (H : M) (hk1 : 1 ≤ k) (hk : k ≤ 12) (hr : r ≤ 4) (hm1 : 1 ≤ m) (hm : m ≤ 65536) (hl : Lst w lo k A C (fun _ => m) H) :
    Calls Try.prog 20 #[.int .i64 (k : Int), .int .i64 (r : Int), .slice lo k cl] w fun e w' => ∃ ao cap T U, e = .returned (.tuple #[.slice ao r cap, .int .i64 0]) ∧ Copied w' w.heap.size r (.slice ao r cap) T (fun _ => m) U (par k H) ∧ Below w.heap.size w w' := by
  have HE := Encode_any w k r lo k cl A C _ H hl
  have h1 : mayB k r = true := decide_eq_true (by omega)
  have h2 : okEnc k (fun _ => m) k r = true := by
    unfold okEnc okC
    rw [h1, okT_const (by omega) hm, cnt_const (by omega)]
    simp
  rw [h1, h2, Int.toNat_natCast, Int.toNat_natCast, len0_const (by omega) k (by omega)] at HE
  exact HE
theorem row_good (w : World) (k r c : Nat) (hk1 : 1 ≤ k) (hk : k ≤ 12) (hr : r ≤ 4) (hc : c < k + r) :
    Calls Try.prog 23 #[.int .i64 (k : Int), .int .i64 (r : Int), .int .i64 (c : Int)] w fun e w' => ∃ g u, e = .returned (.tuple #[.slice (some ⟨g, 0, none⟩) k u, .int .i64 0]) ∧ Own w' g k u (gen k c) ∧ Below w.heap.size w w' := by
  have HR := Row_any w k r c
  have h1 : okRow k r c = true := by
    unfold okRow
    rw [show mayB k r = true from decide_eq_true (by omega)]
    simp; omega
  rw [h1, Int.toNat_natCast, Int.toNat_natCast] at HR
  refine HR.mono ?_
  rintro e w' ⟨ao, cap, rfl, hs, hb⟩
  rcases hs with ⟨_, h0, _⟩ | ⟨g, rfl, _, _, ho⟩
  · exact absurd (show k = 0 from h0) (by omega)
  · exact ⟨g, cap, rfl, ho, hb⟩
/-- Sums of cells, byte by byte. -/
def addM (D E : M) : M := fun j b => K.add (D j b) (E j b)
theorem par_add (k : Nat) (D E : M) (i b : Nat) : par k (addM D E) i b = K.add (par k D i b) (par k E i b) := enc_add k D E (k + i) b
theorem Lst.len' {w : World} {lo : Option Addr} {ll m : Nat} {A : Nat → Option Addr} {C L : Nat → Nat} {H : M} (h : Lst w lo ll A C L H) (e : ∀ i, i < ll → L i = m) : Lst w lo ll A C (fun _ => m) H :=
  ⟨fun i hi => by have := h.rd i hi; rwa [e i hi] at this, fun hp => by
    obtain ⟨b, off, rfl, hc⟩ := h.at_ hp
    exact ⟨b, off, rfl, fun i hi => by rw [hc i hi, e i hi]⟩⟩

end Go.Proofs.Ytgflgmkaaidfnaa

/- What the document's own reduction of a matrix comes to. -/
namespace Go.Proofs.Ytgflgmkaaidfnaa
open Go.RowKit

theorem swp_comm (b i0 : Nat) (X : M) : swp b i0 X = swp i0 b X := by
  funext i
  unfold swp
  by_cases h : i = b
  · by_cases g : i = i0
    · rw [if_pos h, if_pos g]; rw [← h, ← g]
    · rw [if_pos h, if_neg g, if_pos h]
  · by_cases g : i = i0
    · rw [if_neg h, if_pos g, if_pos g]
    · rw [if_neg h, if_neg g, if_neg g, if_neg h]
/-- The rows ahead of the row k have been cleared. -/
def clrT (b c k : Nat) (H : M) (i : Nat) : Nat → K := if i = b then H b else if i < k then plus (H i) ((K.mul (H i c) ((H b c).inv))) (H b) else H i

end Go.Proofs.Ytgflgmkaaidfnaa

/- What the document's own rank and inverse come to. -/
namespace Go.Proofs.Ytgflgmkaaidfnaa
open Go.RowKit

theorem Red.diag_ne {z : Bool} {n : Nat} {A P : M} (h : Red z n A n n P) (i : Nat) (hi : i < n) : P i i ≠ 0 := by
  obtain ⟨p, d, hp, hid⟩ := h.piv
  obtain ⟨_, h2, _, h4⟩ := hp i hi
  have := h4 i hi
  rw [hid rfl i hi, if_pos rfl] at this
  rw [this]; exact h2
/-- What is there behind k rows of a matrix and of the unit matrix beside it. -/
def bes (n : Nat) (H : M) (k : Nat) : M := fun i j => if i < k then beside n H i j else 0
/-- .. and the first half of the next row. -/
def bes' (n : Nat) (H : M) (k : Nat) : M := fun i j => if i < k then beside n H i j else if i = k ∧ j < n then H k j else 0
theorem setRow_keeps (w : World) (g : Nat) (cs : Array Value) : Keeps g (g + 1) w (w.setRow g cs) := ⟨rfl, rfl, rfl, by simp [World.setRow], fun k _ hk => setRow_other w g k cs (by omega)⟩
/-- A row is copied over the beginning of another one. -/
theorem own_copied {w : World} {g n u m : Nat} {f h : Nat → K} {cur : Array Value} (ho : Own w g m u f) (hg : w.heap[g]? = some (.cells cur 5 (0, 0))) (hn : n ≤ m) :
    Own (w.setRow g (cur.toList.take 0 ++ (cellsOf n h ++ cur.toList.drop (0 + (cellsOf n h).length))).toArray) g m u (fun j => if j < n then h j else f j) := by
  obtain ⟨h1, h2, c, ⟨cur', hb, hs, hc⟩, hh⟩ := ho
  rw [hg] at hb
  cases hb
  have hlen : (cur.toList.take 0 ++ (cellsOf n h ++ cur.toList.drop (0 + (cellsOf n h).length))).length = u := by simp [cellsOf_length]; omega
  refine ⟨h1, h2, fun i => if i < n then .int .u8 ((h i).n : Int) else c i, ⟨_, setRow_heap w g _ _ 5 _ hg, by rw [List.size_toArray]; exact hlen, fun i hi => ?_⟩, fun i hi => ?_⟩
  · rw [List.getElem?_toArray, List.take_zero, List.nil_append, Nat.zero_add, cellsOf_length]
    by_cases e : i < n
    · rw [List.getElem?_append_left (by rw [cellsOf_length]; exact e), cellsOf_get _ _ _ e]; simp only [e, if_true]
    · rw [List.getElem?_append_right (by rw [cellsOf_length]; omega), cellsOf_length, List.getElem?_drop, show n + (i - n) = i by omega, Array.getElem?_toList, hc i hi]; simp only [e, if_false]
  · by_cases e : i < n
    · simp only [e, if_true]
    · simp only [e, if_false]; exact hh i hi

theorem wpList_copy_to {w : World} {ops : Array Oper} {rest : List Oper} {o : Oper} {a : Act} {Q : Exit → Act → World → Prop} (hgd : o.guard = none) (d s : Operand)
    (ho : o.op = .call { callee := .builtin .copy, args := #[d, s], argTypes := #[23, 23] }) (hsz : (Try.prog.info? 5).map (·.size) = some 1)
    (g dLen dCap : Nat) (ad : Addr) (sLen sCap : Nat) (hd : a.eval d = .slice (some ⟨g, 0, none⟩) dLen dCap) (hs : a.eval s = .slice (some ad) sLen sCap)
    (cur : Array Value) (hg : w.heap[g]? = some (.cells cur 5 (0, 0))) (cs : List Value) (hn : cs.length = Nat.min sLen dLen)
    (hsrc : ∀ j v, cs[j]? = some v → w.cell? (ad.add j) = some v) (hfit : 0 + cs.length ≤ cur.size) (h1 : ∀ v ∈ cs, v.oneCell' = true) (w3 : World) (hw3 : w3 = w.setRow g (cur.toList.take 0 ++ (cs ++ cur.toList.drop (0 + cs.length))).toArray)
    (h : wpList Try.prog ops Q rest (a.put o.dst (goInt cs.length)) w3) : wpList Try.prog ops Q (o :: rest) a w := by
  subst hw3
  exact wpList_copy_own hgd d s 23 23 ho 5 Try.underlying23 hsz g 0 dLen dCap ad sLen sCap hd hs cur 5 hg cs hn hsrc hfit h1 h

end Go.Proofs.Ytgflgmkaaidfnaa

