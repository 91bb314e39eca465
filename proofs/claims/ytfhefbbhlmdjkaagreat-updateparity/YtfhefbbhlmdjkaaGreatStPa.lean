/- Raw writes in memory; whether a version is above all that slots have. -/
import Derived.Test.YtfhefbbhlmdjkaaGreatStL
namespace Go.Proofs.YtfhefbbhlmdjkaaGreat
open Go.RowKit
/-- Raw writes, drive by drive; a drive whose cell has no bytes has none. -/
def ptl (Lc os : Nat → Nat) (nu : Int) (n : Nat) (T : Nat → Option Addr) (U : Nat → Nat) : Nat → List Value
  | 0 => []
  | d + 1 => if Lc d = 0 then ptl Lc os nu n T U d else ptl Lc os nu n T U d ++ [.int .i64 (d : Int), .int .i64 nu, .int .i64 ((os d : Nat) : Int), .slice (T d) n (U d)]
theorem ptl_congr {Lc os : Nat → Nat} {nu : Int} {n : Nat} {T T' : Nat → Option Addr} {U U' : Nat → Nat} : ∀ {d : Nat}, (∀ i, i < d → T i = T' i ∧ U i = U' i) → ptl Lc os nu n T U d = ptl Lc os nu n T' U' d
  | 0, _ => rfl
  | d + 1, h => by
    rw [ptl, ptl, ptl_congr (d := d) (fun i hi => h i (by omega)), (h d (by omega)).1, (h d (by omega)).2]
/-- The variables that the closure has captured, but the list. -/
structure Box (wz v : World) (gc gi gn gv : Nat) (k r c q : Int) (ro : Option Addr) (N rc : Nat) (kd : UInt8) (nu : Int) (vo : Option Addr) (vc : Nat) (lo : Option Addr) (cc : Nat) : Prop where
  cells : At wz v gc #[.slice lo N cc] 45
  stand : At wz v gi #[.int .i64 k, .int .i64 r, .int .i64 c, .int .i64 q, .slice ro N rc, .int .u8 ((kd.toNat : Nat) : Int)] 69
  num : At wz v gn #[.int .i64 nu] 3
  vec : At wz v gv #[.slice vo N vc] 36
theorem Box.below {wz v v' : World} {gc gi gn gv : Nat} {k r c q : Int} {ro : Option Addr} {N rc : Nat} {kd : UInt8} {nu : Int} {vo : Option Addr} {vc : Nat} {lo : Option Addr} {cc : Nat} (h : Box wz v gc gi gn gv k r c q ro N rc kd nu vo vc lo cc) (hb : Below v.heap.size v v') : Box wz v' gc gi gn gv k r c q ro N rc kd nu vo vc lo cc :=
  ⟨h.cells.below hb, h.stand.below hb, h.num.below hb, h.vec.below hb⟩
/-- Raw writes of the call's own. -/
structure PL (B : Nat) (w : World) (ao : Option Addr) (m cap N : Nat) (Lc os : Nat → Nat) (nu : Int) (n : Nat) (T : Nat → Option Addr) (U : Nat → Nat) (G : Nat → Nat → UInt8) : Prop where
  out : w.ownsRow B 40 4 (.slice ao m cap) m (ptl Lc os nu n T U N)
  row : ∀ i, i < N → Lc i ≠ 0 → OwU B w (T i) n (U i) (G i)
theorem PL.below {B : Nat} {w w' : World} {ao : Option Addr} {m cap N : Nat} {Lc os : Nat → Nat} {nu : Int} {n : Nat} {T : Nat → Option Addr} {U : Nat → Nat} {G : Nat → Nat → UInt8} (h : PL B w ao m cap N Lc os nu n T U G) (hb : Below w.heap.size w w') : PL B w' ao m cap N Lc os nu n T U G :=
  ⟨owns_below h.out hb, fun i hi hn => (h.row i hi hn).below hb⟩
theorem owns_mono {B B' : Nat} {w : World} {e s n : Nat} {v : Value} {xs : List Value} (h : w.ownsRow B e s v n xs) (hb : B' ≤ B) : w.ownsRow B' e s v n xs := by
  refine ⟨h.1, ?_⟩
  rcases h.2 with h1 | ⟨g, cap', cur, h1, h2, h3⟩
  · exact .inl h1
  · exact .inr ⟨g, cap', cur, h1, by omega, h3⟩
theorem PL.mono {B B' : Nat} {w : World} {ao : Option Addr} {m cap N : Nat} {Lc os : Nat → Nat} {nu : Int} {n : Nat} {T : Nat → Option Addr} {U : Nat → Nat} {G : Nat → Nat → UInt8} (h : PL B w ao m cap N Lc os nu n T U G) (hb : B' ≤ B) : PL B' w ao m cap N Lc os nu n T U G :=
  ⟨owns_mono h.out hb, fun i hi hn => (h.row i hi hn).mono hb⟩
theorem zv_rng {N : Nat} {c : Int} {L : Nat → Nat} {F : Nat → Nat → UInt8} {kd : UInt8} {v : Int} {i : Nat} (hi : i < N) : 0 ≤ (zv N c L F kd v i).ce ∧ (zv N c L F kd v i).ce ≤ 1073741824 := by
  unfold zv
  rcases zz_is (kd := kd) (yy_ok N c L F) (tS (yy N c L F) kd v (2 * N)) hi with h | ⟨h, _⟩
  · rw [h]; exact ⟨Int.le_refl 0, by decide⟩
  · have := (ok_of h.1).V i hi
    rw [h.ce]; omega
/-- Into which slot a drive's cell goes. -/
def osl (N : Nat) (c : Int) (L : Nat → Nat) (F : Nat → Nat → UInt8) (kd : UInt8) (ke : Int) (i : Nat) : Nat := oN (yy N c L F (2 * i)) (yy N c L F (2 * i + 1)) kd (zv N c L F kd ke i).ce
theorem wrapI {x : Int} (h : -9223372036854775808 ≤ x ∧ x ≤ 9223372036854775807) : IntKind.i64.wrap x = x := by rw [IntKind.wrap_i64]; omega
theorem val_mul {i m p : Nat} (h : p = i * m) (hp : p ≤ 100000) : Value.int .i64 (wrap64 ((i : Int) * (m : Int))) = .int .i64 (p : Int) ∧ Value.int .i64 (IntKind.i64.wrap ((i : Int) * (m : Int))) = .int .i64 (p : Int) := by
  rw [← Int.natCast_mul, ← h, w64 _ ⟨by omega, by omega⟩, wrapI ⟨by omega, by omega⟩]
  exact ⟨rfl, rfl⟩
theorem val_mul2 {i m p : Nat} (h : p + m = (i + 1) * m) (hp : p + m ≤ 100000) : Value.int .i64 (wrap64 (((i : Int) + 1) * (m : Int))) = .int .i64 ((p + m : Nat) : Int) ∧ Value.int .i64 (IntKind.i64.wrap (((i : Int) + 1) * (m : Int))) = .int .i64 ((p + m : Nat) : Int) := by
  have e : (i : Int) + 1 = ((i + 1 : Nat) : Int) := by omega
  rw [e, ← Int.natCast_mul, ← h, w64 _ ⟨by omega, by omega⟩, wrapI ⟨by omega, by omega⟩]
  exact ⟨rfl, rfl⟩
/-- All cells of a stripe's data. -/
def dM (m : Nat) (D : Nat → UInt8) : Cod.M := fun a b => toK (D (a * m + b))
def dH (K m : Nat) (D : Nat → UInt8) (i j : Nat) : UInt8 := bK (Cod.enc K (dM m D) i j)
theorem dH_data {K m : Nat} {D : Nat → UInt8} {i j : Nat} (hi : i < K) : dH K m D i j = D (i * m + j) := by
  unfold dH; rw [Cod.enc_data _ hi]; exact bK_toK _
/-- Raw writes and an error. -/
def AnsL (w : World) (E : Int) (m N : Nat) (Lc os : Nat → Nat) (nu : Int) (n : Nat) (G : Nat → Nat → UInt8) (e : Ending) (w' : World) : Prop :=
  ∃ ao cap T U, e = .returned (.tuple #[.slice ao (lenE E m) cap, .int .i64 E]) ∧ (E = 0 → PL w.heap.size w' ao m cap N Lc os nu n T U G) ∧ Below w.heap.size w w'
theorem bec_cut {w : World} {b off n cap : Nat} {D : Nat → UInt8} (h : Bec w (some ⟨b, off, none⟩) n cap D) {p m : Nat} (hp : p + m ≤ n) (hn : 0 < n) : Bec w (some ⟨b, off + p, none⟩) m m (fun j => D (p + j)) := by
  refine ⟨fun hm => ⟨b, off + p, rfl, fun j hj => ?_⟩, (fun e => by cases e), Nat.le_refl _⟩
  obtain ⟨b', off', e, hc⟩ := h.rd hn
  cases e
  have := hc (p + j) (by omega)
  rw [Nat.add_assoc]; exact this
theorem rows_set {N d : Nat} (T : Nat → Option Addr) (L U : Nat → Nat) (a : Option Addr) (l u : Nat) : (Cod.rowsOf N T L U).set d (.slice a l u) = Cod.rowsOf N (Cod.put d a T) (Cod.put d l L) (Cod.put d u U) := by
  apply List.ext_getElem?
  intro i
  rw [List.getElem?_set]
  by_cases hi : i < N
  · rw [Cod.rowsOf_get N (Cod.put d a T) _ _ i hi]
    by_cases e : d = i
    · subst e; rw [if_pos rfl, if_pos (by rw [Cod.rowsOf_length]; exact hi), Cod.put_at, Cod.put_at, Cod.put_at]
    · rw [if_neg e, Cod.rowsOf_get _ _ _ _ _ hi, Cod.put_ne _ _ (fun h => e h.symm), Cod.put_ne _ _ (fun h => e h.symm), Cod.put_ne _ _ (fun h => e h.symm)]
  · have h1 : (Cod.rowsOf N (Cod.put d a T) (Cod.put d l L) (Cod.put d u U))[i]? = none := List.getElem?_eq_none (by rw [Cod.rowsOf_length]; omega)
    rw [h1]
    by_cases e : d = i
    · subst e; rw [if_pos rfl, if_neg (by rw [Cod.rowsOf_length]; exact hi)]
    · rw [if_neg e, List.getElem?_eq_none (by rw [Cod.rowsOf_length]; omega)]
/-- What slot number j is read as. -/
def zq (N : Nat) (c : Int) (L : Nat → Nat) (F : Nat → Nat → UInt8) (j : Nat) : Sl := slQ (isS N c (L j) (F j)) N c (F j)
def abB (N : Nat) (c : Int) (L : Nat → Nat) (F : Nat → Nat → UInt8) (v : Int) : Bool := decide (∀ j, j < 2 * N → isS N c (L j) (F j) = true → (zq N c L F j).st < v)
def twB (N : Nat) (c : Int) (L : Nat → Nat) (F : Nat → Nat → UInt8) (kd : UInt8) (i : Nat) : Prop := isS N c (L (2 * i)) (F (2 * i)) = true ∧ isS N c (L (2 * i + 1)) (F (2 * i + 1)) = true ∧ (zq N c L F (2 * i)).kd = kd ∧ (zq N c L F (2 * i + 1)).kd = kd ∧ (zq N c L F (2 * i)).ce = (zq N c L F (2 * i + 1)).ce
theorem yq {N : Nat} {c : Int} {L : Nat → Nat} {F : Nat → Nat → UInt8} (j : Nat) : yy N c L F j = zSl ∨ (isS N c (L j) (F j) = true ∧ yy N c L F j = zq N c L F j) := by
  rcases he_is N c ((j / 2 : Nat) : Int) (L j) (F j) with h | ⟨_, _, h, e⟩
  · exact .inl h
  · refine .inr ⟨h, e.trans ?_⟩
    unfold zq slQ; rw [h, if_pos rfl]
theorem above_st {N : Nat} {c : Int} {L : Nat → Nat} {F : Nat → Nat → UInt8} {v : Int} (h : abB N c L F v = true) (hv : 1 ≤ v) {j : Nat} (hj : j < 2 * N) : (yy N c L F j).st < v := by
  rcases yq (N := N) (c := c) (L := L) (F := F) j with e | ⟨e1, e2⟩
  · rw [e]; show (0 : Int) < v; omega
  · rw [e2]; exact of_decide_eq_true h j hj e1
theorem once_of {N : Nat} {c : Int} {L : Nat → Nat} {F : Nat → Nat → UInt8} {kd : UInt8} (hk : kd = 1 ∨ kd = 2) (h : ∀ i, i < N → ¬ twB N c L F kd i) : Once N kd (yy N c L F) := fun i hi e0 e1 e2 => by
  have nz : zSl.kd ≠ kd := by rcases hk with rfl | rfl <;> decide
  rcases yq (N := N) (c := c) (L := L) (F := F) (2 * i) with a | ⟨a1, a2⟩
  · rw [a] at e0; exact nz e0
  · rcases yq (N := N) (c := c) (L := L) (F := F) (2 * i + 1) with b | ⟨b1, b2⟩
    · rw [b] at e1; exact nz e1
    · rw [a2] at e0 e2; rw [b2] at e1 e2
      exact h i hi ⟨a1, b1, e0, e1, e2⟩
end Go.Proofs.YtfhefbbhlmdjkaaGreat
