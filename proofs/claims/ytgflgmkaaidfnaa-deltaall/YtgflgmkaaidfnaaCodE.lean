/- Sums of multiples of cells; copies; whether cells are the same. -/
import Derived.Test.YtgflgmkaaidfnaaCodD
import Derived.Test.YtgflgmkaaidfnaaMatT
import Derived.Test.YtgflgmkaaidfnaaKerP
import Derived.Laws.Cover3
namespace Go.Proofs.Ytgflgmkaaidfnaa
open Go.RowKit

theorem rd_ker {w : World} {ao : Option Addr} {n : Nat} {f : Nat → K} (h : Rd w ao n f) : Ker.Rd w ao n (fun i => (f i).n) := ⟨fun i => (f i).lt, h⟩
theorem lst_ker {w : World} {lo : Option Addr} {ll : Nat} {A : Nat → Option Addr} {C L : Nat → Nat} {H : M} (h : Lst w lo ll A C L H) : Ker.Lst w lo ll A C L (fun i j => (H i j).n) := ⟨fun i hi => rd_ker (h.rd i hi), h.at_⟩
/-- The sum of the first k cells, each times its number. -/
def lin (k : Nat) (F : Nat → K) (H : M) (b : Nat) : K := sum k (fun j => K.mul (F j) (H j b))
theorem tot_ker (k : Nat) (F : Nat → K) (H : M) (b : Nat) : Ker.tot (fun j => (F j).n) (fun j b => (H j b).n) k b = (lin k F H b).n := by
  induction k with
  | zero => rfl
  | succ k ih =>
    show Gf.add (Ker.tot _ _ k b) (Gf.mul (F k).n (H k b).n) = _
    rw [ih]; rfl
theorem own_ker {w : World} {g n : Nat} {f : Nat → Nat} {h : Nat → K} (ho : Ker.Own w g n f) (hn : n ≤ maxLen) (e : ∀ i, f i = (h i).n) : Own w g n n h :=
  ⟨Nat.le_refl _, hn, _, ho.2, fun i _ => by rw [e i]⟩
/-- A call that makes n bytes f in new memory. -/
def New (w : World) (n : Nat) (f : Nat → K) (e : Ending) (w' : World) : Prop :=
  ∃ g, e = .returned (.tuple #[.slice (some ⟨g, 0, none⟩) n n, .int .i64 0]) ∧ w.heap.size ≤ g ∧ Own w' g n n f ∧ Below w.heap.size w w'
theorem new_of {w : World} {ok : Bool} {n : Nat} {f : Nat → Nat} {h : Nat → K} {e : Ending} {w' : World} (hm : Ker.Made w ok n f e w') (hok : ok = true) (h1 : 1 ≤ n) (h2 : n ≤ 65536) (he : ∀ i, f i = (h i).n) : New w n h e w' := by
  subst hok
  obtain ⟨ro, rfl, ha, hb⟩ := hm
  rcases ha with ⟨_, h0, _⟩ | ⟨g, rfl, hg, ho⟩
  · exact absurd (show n = 0 from h0) (by omega)
  · exact ⟨g, rfl, hg, own_ker ho (by show n ≤ maxLen; unfold maxLen; omega) he, hb⟩
theorem okL_yes {k n : Nat} {L : Nat → Nat} (hk : k ≤ 16) (hn : n ≤ 65536) (h1 : 1 ≤ k) (hL : ∀ i, i < k → L i = n) : Ker.okL k k L = true ∧ Ker.n0 k L = n :=
  ⟨decide_eq_true ⟨hk, rfl, fun i hi => by rw [hL i hi, hL 0 (by omega)]; exact ⟨hn, rfl⟩⟩, by unfold Ker.n0; rw [if_neg (by omega)]; exact hL 0 (by omega)⟩
theorem dot_k (w : World) (co lo : Option Addr) (k cc cl n : Nat) (F : Nat → K) (A : Nat → Option Addr) (C L : Nat → Nat) (H : M) (hk1 : 1 ≤ k) (hk : k ≤ 16) (hn1 : 1 ≤ n) (hn : n ≤ 65536) (hc : Rd w co k F) (hl : Lst w lo k A C L H) (hL : ∀ i, i < k → L i = n) :
    Calls Try.prog 34 #[.slice co k cc, .slice lo k cl] w (New w n (lin k F H)) := by
  obtain ⟨h1, h2⟩ := okL_yes hk hn hk1 hL
  refine (Ker.dot_any w co lo k cc k cl _ A C L _ (by omega) (by omega) (rd_ker hc) (lst_ker hl)).mono fun e w' h => ?_
  rw [h2] at h
  exact new_of h h1 hn1 hn (tot_ker k F H)
theorem sum_any (w : World) (co lo : Option Addr) (k cc cl n : Nat) (F : Nat → K) (A : Nat → Option Addr) (C L : Nat → Nat) (H : M) (hk1 : 1 ≤ k) (hk : k ≤ 16) (hn1 : 1 ≤ n) (hn : n ≤ 65536) (hc : Rd w co k F) (hl : Lst w lo k A C L H) (hL : ∀ i, i < k → L i = n) :
    Calls Try.prog 42 #[.slice co k cc, .slice lo k cl] w fun e w' => ∃ g, e = .returned (.slice (some ⟨g, 0, none⟩) n n) ∧ w.heap.size ≤ g ∧ Own w' g n n (lin k F H) ∧ Below w.heap.size w w' := by
  have HD := dot_k w co lo k cc cl n F A C L H hk1 hk hn1 hn hc hl hL
  clear hc hl hL
  go_enter Try.func42, Try.ntmps42
  go_wp2_with (go_at_call 34; refine HD.mono ?_; rintro e w' ⟨g, rfl, hg, ho, hb⟩)
  go_ret
  exact ⟨g, rfl, hg, ho, hb⟩

theorem info5c : (Try.prog.info? 5).map (fun i => (i.zero, i.size, i.bytes)) = some (some (.int .u8 0), 1, 1) := by kernel_rfl
theorem owns_empty (w : World) : (w.alloc (.cells #[] 5)).ownsRow w.heap.size 5 1 (.slice (some ⟨w.heap.size, 0, none⟩) 0 0) 0 [] :=
  ⟨rfl, .inr ⟨w.heap.size, 0, #[], rfl, Nat.le_refl _, heap_alloc_new w _, Nat.le_refl _, Nat.zero_le _, rfl, rfl⟩⟩
theorem eq_nil_no (w : World) (a : Addr) (l c : Nat) : (binOp .eql 23 (.slice (some a) l c) (.slice none 0 0)).run Try.prog w = .ok (.bool false) w := by
  have h : (Op.equal 23 (.slice (some a) l c) (.slice none 0 0)).run Try.prog w = .ok false w := run_equalIn_slice_nil w 9999 23 5 (some a) l c Try.underlying23
  simp only [binOp]
  simp [h]
theorem str_inj {n : Nat} {f h : Nat → K} (e : str n f = str n h) (i : Nat) (hi : i < n) : f i = h i := by
  have e1 : (str n f).data.toList[i]? = (str n h).data.toList[i]? := by rw [e]
  unfold str at e1
  rw [strOfNums_data, strOfNums_data] at e1
  simp [hi] at e1
  have h1 := (f i).lt
  have h2 := (h i).lt
  have e2 := congrArg UInt8.toNat e1
  simp at e2
  exact K.ext (by omega)
/-- Whether n bytes are the same. -/
def eqB (n : Nat) (f h : Nat → K) : Bool := (str n f).toList == (str n h).toList
theorem eqB_true {n : Nat} {f h : Nat → K} : eqB n f h = true ↔ ∀ i, i < n → f i = h i := by
  unfold eqB
  rw [beq_iff_eq]
  rw [ByteArray.toList_eq, ByteArray.toList_eq]
  exact ⟨fun e => str_inj (Go.WideShapes.bytes_inj e), fun e => by rw [str_congr e]⟩
/-- Whether n cells of m bytes are the same. -/
def eqAll (ll n : Nat) (H H' : M) : Bool := decide (∀ i, i < ll → eqB n (H i) (H' i) = true)
end Go.Proofs.Ytgflgmkaaidfnaa
