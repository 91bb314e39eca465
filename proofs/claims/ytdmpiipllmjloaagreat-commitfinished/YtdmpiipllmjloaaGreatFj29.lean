/- StO StP StT StU: what is needed of them. -/
import Derived.Test.YtdmpiipllmjloaaGreatFj28
namespace Go.Proofs.YtdmpiipllmjloaaGreat
open Go.RowKit
/-- Raw writes of the call's own. -/
structure PL (B : Nat) (w : World) (ao : Option Addr) (m cap N : Nat) (Lc os : Nat → Nat) (nu : Int) (n : Nat) (T : Nat → Option Addr) (U : Nat → Nat) (G : Nat → Nat → UInt8) : Prop where
  out : w.ownsRow B 79 4 (.slice ao m cap) m (ptl Lc os nu n T U N)
  row : ∀ i, i < N → Lc i ≠ 0 → OwU B w (T i) n (U i) (G i)
theorem PL.below {B : Nat} {w w' : World} {ao : Option Addr} {m cap N : Nat} {Lc os : Nat → Nat} {nu : Int} {n : Nat} {T : Nat → Option Addr} {U : Nat → Nat} {G : Nat → Nat → UInt8} (h : PL B w ao m cap N Lc os nu n T U G) (hb : Below w.heap.size w w') : PL B w' ao m cap N Lc os nu n T U G :=
  ⟨owns_below h.out hb, fun i hi hn => (h.row i hi hn).below hb⟩
theorem owns_mono {B B' : Nat} {w : World} {e s n : Nat} {v : Value} {xs : List Value} (h : w.ownsRow B e s v n xs) (hb : B' ≤ B) : w.ownsRow B' e s v n xs := by
  refine ⟨h.1, ?_⟩
  rcases h.2 with h1 | ⟨g, cap', cur, h1, h2, h3⟩
  · exact .inl h1
  · exact .inr ⟨g, cap', cur, h1, by omega, h3⟩
theorem PL.mono {B B' : Nat} {w : World} {ao : Option Addr} {m cap N : Nat} {Lc os : Nat → Nat} {nu : Int} {n : Nat} {T : Nat → Option Addr} {U : Nat → Nat} {G : Nat → Nat → UInt8} (h : PL B w ao m cap N Lc os nu n T U G) (hb : B' ≤ B) : PL B' w ao m cap N Lc os nu n T U G :=
  ⟨owns_mono h.out hb, fun i hi hn => (h.row i hi hn).mono hb⟩
theorem zv_rng {N : Nat} {c : Int} {L : Nat → Nat} {F : Nat → Nat → UInt8} {kd : UInt8} {v : Int} {i : Nat} (hi : i < N) : 0 ≤ (zv N c L F kd v i).ce ∧ (zv N c L F kd v i).ce ≤ 1073741824 := by
  unfold zv
  rcases zz_is (kd := kd) (yy_ok N c L F) (tS (yy N c L F) kd v (2 * N)) hi with h | ⟨h, _⟩
  · rw [h]; exact ⟨Int.le_refl 0, by decide⟩
  · have := (ok_of h.1).V i hi
    rw [h.ce]; omega
/-- Into which slot a drive's cell goes. -/
def osl (N : Nat) (c : Int) (L : Nat → Nat) (F : Nat → Nat → UInt8) (kd : UInt8) (ke : Int) (i : Nat) : Nat := oN (yy N c L F (2 * i)) (yy N c L F (2 * i + 1)) kd (zv N c L F kd ke i).ce
set_option maxHeartbeats 8000000 in
set_option maxRecDepth 100000 in
theorem puts_any {k r c q : Int} {N W : Nat} (h : Par k r c q N W 0) (w : World) (ro : Option Addr) (rc : Nat) (A : Nat → Option Addr) (L C : Nat → Nat) (F : Nat → Nat → UInt8) (hr : Rw w ro N A L C F) (hL : ∀ j, j < 2 * N → L j = 0 ∨ L j = sz N c) (kd : UInt8) (hk : kd = 1 ∨ kd = 2) (nu ke : Int)
    (vo : Option Addr) (vc : Nat) (X : Nat → Int) (hv : Vec w vo N vc X) (hX : ∀ j, j < N → 1 ≤ X j ∧ X j ≤ 1073741824) (lo : Option Addr) (cc : Nat) (Tc : Nat → Option Addr) (Lc Uc : Nat → Nat) (Dc : Nat → Nat → UInt8) (hl : RdC w lo N Tc Lc Uc) (hbc : ∀ i, i < N → Bec w (Tc i) (Lc i) (Uc i) (Dc i)) (hLc : ∀ i, i < N → Lc i = 0 ∨ Lc i = c.toNat) :
    Calls Tryz.prog 40 #[stv k r c q ro N rc kd, .int .i64 nu, .int .i64 ke, .slice vo N vc, .slice lo N cc] w fun e w' => ∃ ao cap T U, e = .returned (.slice ao (Cod.cnt Lc N) cap) ∧ PL w.heap.size w' ao (Cod.cnt Lc N) cap N Lc (osl N c L F kd ke) nu (sz N c) T U (fun i => enc (slC kd N X c.toNat (Dc i) i)) ∧ Below w.heap.size w w' := by
  have HEA : Hid (∀ wf gc gi gp gn gv Y, Below w.heap.size w wf → Cap w wf gp 30 79 4 0 [] Y → Box w wf gc gi gn gv k r c q ro N rc kd nu vo vc lo cc → Calls Tryz.prog 63 #[stv k r c q ro N rc kd, .int .i64 ke, .func (.func 73) #[] #[.pointer (some ⟨gc, 0, none⟩), .pointer (some ⟨gi, 0, none⟩), .pointer (some ⟨gp, 0, none⟩), .pointer (some ⟨gn, 0, none⟩), .pointer (some ⟨gv, 0, none⟩)]] wf fun e w' => e = .returned (.tuple #[]) ∧ ∃ Y', Pts w gp (fun v => Box w v gc gi gn gv k r c q ro N rc kd nu vo vc lo cc) Lc (osl N c L F kd ke) nu (sz N c) (fun i => enc (slC kd N X c.toNat (Dc i) i)) N w' Y' ∧ Only Y wf w' ∧ ∀ g, Y' g → Y g ∨ wf.heap.size ≤ g) := fun wf gc gi gp gn gv Y hb hc hx => by
    refine each_any h w wf hb ro rc A L C F hr hL kd hk ke _ rfl 73 _ (Pts w gp (fun v => Box w v gc gi gn gv k r c q ro N rc kd nu vo vc lo cc) Lc (osl N c L F kd ke) nu (sz N c) (fun i => enc (slC kd N X c.toNat (Dc i) i))) ⟨fun _ _ => rfl, fun d a b Y hI hb => ?_, fun d a Y hI g hg => ?_, fun d hd u Y B hI hbu hB ao ca bo cb hg => ?_⟩ _ ⟨fun _ => none, fun _ => 0, hc, fun i hi => absurd hi (by omega), hx⟩
    · obtain ⟨T, U, h1, h2, h3⟩ := hI
      exact ⟨T, U, h1.below hb, fun i hi hn => (h2 i hi hn).below hb, h3.below hb⟩
    · obtain ⟨T, U, h1, _⟩ := hI
      exact h1.at_ g hg
    · exact puts1_any h w u hbu ro rc A L C F hr hL kd hk gc gi gp gn gv d hd nu vo vc X hv hX lo cc Tc Lc Uc Dc hl hbc (hLc d hd) (zv N c L F kd ke d) (zv_rng hd) (osl N c L F kd ke) rfl Y ao ca bo cb hI
  obtain ⟨w0, hw0⟩ : ∃ w0, w0 = w.alloc (.cells #[.int .i64 k, .int .i64 r, .int .i64 c, .int .i64 q, .slice ro N rc, .int .u8 ((kd.toNat : Nat) : Int)] 90) := ⟨_, rfl⟩
  obtain ⟨w1, hw1⟩ : ∃ w1, w1 = w0.alloc (.cells #[.int .i64 nu] 3) := ⟨_, rfl⟩
  obtain ⟨w2, hw2⟩ : ∃ w2, w2 = w1.alloc (.cells #[.slice vo N vc] 38) := ⟨_, rfl⟩
  obtain ⟨w3, hw3⟩ : ∃ w3, w3 = w2.alloc (.cells #[.slice lo N cc] 75) := ⟨_, rfl⟩
  obtain ⟨w4, hw4⟩ : ∃ w4, w4 = w3.alloc (.cells #[.slice none 0 0] 30) := ⟨_, rfl⟩
  have b0 : Below w.heap.size w w0 := by rw [hw0]; exact below_alloc _ _
  have b1 : Below w0.heap.size w0 w1 := by rw [hw1]; exact below_alloc _ _
  have b2 : Below w1.heap.size w1 w2 := by rw [hw2]; exact below_alloc _ _
  have b3 : Below w2.heap.size w2 w3 := by rw [hw3]; exact below_alloc _ _
  have b4 : Below w3.heap.size w3 w4 := by rw [hw4]; exact below_alloc _ _
  have z0 : w0.heap.size = w.heap.size + 1 := by rw [hw0]; simp
  have z1 : w1.heap.size = w.heap.size + 1 + 1 := by rw [hw1]; simp [z0]
  have z2 : w2.heap.size = w.heap.size + 1 + 1 + 1 := by rw [hw2]; simp [z1]
  have z3 : w3.heap.size = w.heap.size + 1 + 1 + 1 + 1 := by rw [hw3]; simp [z2]
  have c1 := below_then b0 b1
  have c2 := below_then c1 b2
  have c3 := below_then c2 b3
  have c4 := below_then c3 b4
  have hbox : Box w w4 (w.heap.size + 1 + 1 + 1) w.heap.size (w.heap.size + 1) (w.heap.size + 1 + 1) k r c q ro N rc kd nu vo vc lo cc :=
    ⟨by rw [← z2]; exact (at_made c2 hw3).below b4, (at_made (Below.refl _ _) hw0).below (below_then (below_then (below_then b1 b2) b3) b4), by rw [← z0]; exact (at_made b0 hw1).below (below_then (below_then b2 b3) b4), by rw [← z1]; exact (at_made c1 hw2).below (below_then b3 b4)⟩
  have hE2 := HEA.out w4 (w.heap.size + 1 + 1 + 1) w.heap.size (w.heap.size + 1 + 1 + 1 + 1) (w.heap.size + 1) (w.heap.size + 1 + 1) (fun x => x = w.heap.size + 1 + 1 + 1 + 1) c4 (cap_new c3 hw4 z3) hbox
  have HB4 : Hid (Below w.heap.size w w4) := c4
  clear h hr hL hv hX hl hbc hLc HEA hbox c1 c2 c3 c4 b0 b1 b2 b3 b4 z0 z1 z2 z3
  unfold stv at hE2 ⊢
  go_enter Tryz.func40, Tryz.ntmps40
  go_wp2_with fail
  rw [← hw0, ← hw1, ← hw2, ← hw3, ← hw4]
  clear hw0 hw1 hw2 hw3 hw4
  refine hE2.mono ?_
  rintro e wf ⟨rfl, Y, ⟨T, U, ⟨ao, cap, hAt, hown, _⟩, hT, _⟩, hO, _⟩
  have s0 := hAt.cell (i := 0) rfl
  go_wp2_with fail
  go_ret
  exact ⟨ao, cap, T, U, rfl, ⟨hown, hT⟩, HB4.out.trans (hO.below (fun i hi => by omega) HB4.out.size)⟩
end Go.Proofs.YtdmpiipllmjloaaGreat
namespace Go.Proofs.YtdmpiipllmjloaaGreat
open Go.RowKit
/-- All cells of a stripe's data. -/
def dM (m : Nat) (D : Nat → UInt8) : Cod.M := fun a b => toK (D (a * m + b))
def dH (K m : Nat) (D : Nat → UInt8) (i j : Nat) : UInt8 := bK (Cod.enc K (dM m D) i j)
/-- Raw writes and an error. -/
def AnsL (w : World) (E : Int) (m N : Nat) (Lc os : Nat → Nat) (nu : Int) (n : Nat) (G : Nat → Nat → UInt8) (e : Ending) (w' : World) : Prop :=
  ∃ ao cap T U, e = .returned (.tuple #[.slice ao (lenE E m) cap, .int .i64 E]) ∧ (E = 0 → PL w.heap.size w' ao m cap N Lc os nu n T U G) ∧ Below w.heap.size w w'
end Go.Proofs.YtdmpiipllmjloaaGreat
namespace Go.Proofs.YtdmpiipllmjloaaGreat
open Go.RowKit
/-- What slot number j is read as. -/
def zq (N : Nat) (c : Int) (L : Nat → Nat) (F : Nat → Nat → UInt8) (j : Nat) : Sl := slQ (isS N c (L j) (F j)) N c (F j)
def twB (N : Nat) (c : Int) (L : Nat → Nat) (F : Nat → Nat → UInt8) (kd : UInt8) (i : Nat) : Prop := isS N c (L (2 * i)) (F (2 * i)) = true ∧ isS N c (L (2 * i + 1)) (F (2 * i + 1)) = true ∧ (zq N c L F (2 * i)).kd = kd ∧ (zq N c L F (2 * i + 1)).kd = kd ∧ (zq N c L F (2 * i)).ce = (zq N c L F (2 * i + 1)).ce
theorem yq {N : Nat} {c : Int} {L : Nat → Nat} {F : Nat → Nat → UInt8} (j : Nat) : yy N c L F j = zSl ∨ (isS N c (L j) (F j) = true ∧ yy N c L F j = zq N c L F j) := by
  rcases he_is N c ((j / 2 : Nat) : Int) (L j) (F j) with h | ⟨_, _, h, e⟩
  · exact .inl h
  · refine .inr ⟨h, e.trans ?_⟩
    unfold zq slQ; rw [h, if_pos rfl]
theorem once_of {N : Nat} {c : Int} {L : Nat → Nat} {F : Nat → Nat → UInt8} {kd : UInt8} (hk : kd = 1 ∨ kd = 2) (h : ∀ i, i < N → ¬ twB N c L F kd i) : Once N kd (yy N c L F) := fun i hi e0 e1 e2 => by
  have nz : zSl.kd ≠ kd := by rcases hk with rfl | rfl <;> decide
  rcases yq (N := N) (c := c) (L := L) (F := F) (2 * i) with a | ⟨a1, a2⟩
  · rw [a] at e0; exact nz e0
  · rcases yq (N := N) (c := c) (L := L) (F := F) (2 * i + 1) with b | ⟨b1, b2⟩
    · rw [b] at e1; exact nz e1
    · rw [a2] at e0 e2; rw [b2] at e1 e2
      exact h i hi ⟨a1, b1, e0, e1, e2⟩
end Go.Proofs.YtdmpiipllmjloaaGreat
namespace Go.Proofs.YtdmpiipllmjloaaGreat
open Go.RowKit
theorem ptl_len (Lc os : Nat → Nat) (nu : Int) (n : Nat) (T : Nat → Option Addr) (U : Nat → Nat) : ∀ d, (ptl Lc os nu n T U d).length = 4 * Cod.cnt Lc d
  | 0 => rfl
  | d + 1 => by
    rw [ptl]
    by_cases h : Lc d = 0
    · rw [if_pos h, Cod.cnt_skip h]; exact ptl_len Lc os nu n T U d
    · rw [if_neg h, Cod.cnt_take h, List.length_append, ptl_len Lc os nu n T U d]; simp; omega
theorem ptl_get (Lc os : Nat → Nat) (nu : Int) (n : Nat) (T : Nat → Option Addr) (U : Nat → Nat) : ∀ d t, t < Cod.cnt Lc d →
    (ptl Lc os nu n T U d)[t * 4]? = some (.int .i64 ((Cod.sel Lc d t : Nat) : Int)) ∧ (ptl Lc os nu n T U d)[t * 4 + 2]? = some (.int .i64 ((os (Cod.sel Lc d t) : Nat) : Int)) ∧ (ptl Lc os nu n T U d)[t * 4 + 3]? = some (.slice (T (Cod.sel Lc d t)) n (U (Cod.sel Lc d t)))
  | 0, t, h => absurd h (Nat.not_lt_zero t)
  | d + 1, t, h => by
    rw [ptl]
    by_cases hz : Lc d = 0
    · rw [Cod.cnt_skip hz] at h
      rw [if_pos hz, Cod.sel_skip hz]; exact ptl_get Lc os nu n T U d t h
    · rw [Cod.cnt_take hz] at h
      have hl := ptl_len Lc os nu n T U d
      rw [if_neg hz]
      by_cases e : t = Cod.cnt Lc d
      · rw [Cod.sel_take hz, e, Cod.put_at, List.getElem?_append_right (by omega), List.getElem?_append_right (by omega), List.getElem?_append_right (by omega), hl, show Cod.cnt Lc d * 4 - 4 * Cod.cnt Lc d = 0 by omega, show Cod.cnt Lc d * 4 + 2 - 4 * Cod.cnt Lc d = 2 by omega, show Cod.cnt Lc d * 4 + 3 - 4 * Cod.cnt Lc d = 3 by omega]
        exact ⟨rfl, rfl, rfl⟩
      · have ht : t < Cod.cnt Lc d := by omega
        rw [List.getElem?_append_left (by omega), List.getElem?_append_left (by omega), List.getElem?_append_left (by omega), Cod.sel_prefix Lc (Nat.le_succ d) ht]
        exact ptl_get Lc os nu n T U d t ht
/-- What lies in the places of a row behind t raw writes. -/
def bP {α : Type} (Lc os : Nat → Nat) (N : Nat) (f g : Nat → α) : Nat → Nat → α
  | 0 => f
  | t + 1 => Cod.put (2 * Cod.sel Lc N t + os (Cod.sel Lc N t)) (g (Cod.sel Lc N t)) (bP Lc os N f g t)
theorem bP_out {α : Type} {Lc os : Nat → Nat} {N : Nat} {f g : Nat → α} {j : Nat} : ∀ {t : Nat}, (∀ s, s < t → 2 * Cod.sel Lc N s + os (Cod.sel Lc N s) ≠ j) → bP Lc os N f g t j = f j
  | 0, _ => rfl
  | t + 1, h => by rw [bP, Cod.put_ne _ _ (fun e => h t (by omega) e.symm)]; exact bP_out fun s hs => h s (by omega)
theorem bP_in {α : Type} {Lc os : Nat → Nat} {N : Nat} {f g : Nat → α} (ho : ∀ i, os i < 2) {s : Nat} : ∀ {t : Nat}, t ≤ Cod.cnt Lc N → s < t → bP Lc os N f g t (2 * Cod.sel Lc N s + os (Cod.sel Lc N s)) = g (Cod.sel Lc N s)
  | 0, _, h => absurd h (Nat.not_lt_zero s)
  | t + 1, ht, h => by
    rw [bP]
    by_cases e : s = t
    · rw [e, Cod.put_at]
    · have hr := (Cod.sel_is Lc N).rise s t (by omega) (by omega)
      have h1 := ho (Cod.sel Lc N s)
      have h2 := ho (Cod.sel Lc N t)
      rw [Cod.put_ne _ _ (by omega)]
      exact bP_in ho (by omega) (by omega)
theorem oN_lt (y0 y1 : Sl) (kd : UInt8) (v : Int) : oN y0 y1 kd v < 2 := by
  unfold oN
  split
  · omega
  · split
    · omega
    · split <;> omega
theorem info35 : (Tryz.prog.info? 67).map (fun i => (i.zero, i.size, i.bytes)) = some (some (.agg #[.slice none 0 0, .slice none 0 0]), 2, 48) := by kernel_rfl
/-- A row in a list of the call's own. -/
structure Rn (B : Nat) (w : World) (g rn cap : Nat) (A : Nat → Option Addr) (L C : Nat → Nat) (F : Nat → Nat → UInt8) : Prop where
  out : w.ownsRow B 67 2 (.slice (some ⟨g, 0, none⟩) rn cap) rn (Cod.rowsOf (2 * rn) A L C)
  bec : ∀ j, j < 2 * rn → Bec w (A j) (L j) (C j) (F j)
theorem Rn.cell {B : Nat} {w : World} {g rn cap : Nat} {A : Nat → Option Addr} {L C : Nat → Nat} {F : Nat → Nat → UInt8} (h : Rn B w g rn cap A L C F) {j : Nat} (hj : j < 2 * rn) : w.cell? ⟨g, j, none⟩ = some (.slice (A j) (L j) (C j)) := by
  have := h.out.cells (g := g) rfl j _ (Cod.rowsOf_get (2 * rn) A L C j hj)
  rw [Addr.add_lit, Nat.zero_add] at this
  exact this
theorem Rn.rw {B : Nat} {w : World} {g rn cap : Nat} {A : Nat → Option Addr} {L C : Nat → Nat} {F : Nat → Nat → UInt8} (h : Rn B w g rn cap A L C F) : Rw w (some ⟨g, 0, none⟩) rn A L C F :=
  ⟨fun _ => ⟨g, 0, rfl, fun i hi => by
    rw [Nat.zero_add, Nat.mul_comm i 2]
    exact ⟨h.cell (by omega), h.cell (by omega)⟩⟩, h.bec⟩
theorem Rn.below {B : Nat} {w w' : World} {g rn cap : Nat} {A : Nat → Option Addr} {L C : Nat → Nat} {F : Nat → Nat → UInt8} (h : Rn B w g rn cap A L C F) (hb : Below w.heap.size w w') : Rn B w' g rn cap A L C F :=
  ⟨owns_below h.out hb, fun j hj => (h.bec j hj).below hb⟩
theorem rw_news {w : World} {a : Addr} {rn : Nat} {A : Nat → Option Addr} {L C : Nat → Nat} {F : Nat → Nat → UInt8} (h : Rw w (some a) rn A L C F) (hn : 0 < rn) : ∀ j u, (Cod.rowsOf (2 * rn) A L C)[j]? = some u → w.cell? (a.add j) = some u := fun j u hu => by
  have hj : j < 2 * rn := list_lt (Cod.rowsOf_length _ _ _ _) hu
  rw [Cod.rowsOf_get _ _ _ _ _ hj] at hu
  obtain ⟨b, off, e, hc⟩ := h.at_ hn
  cases e
  rw [Addr.add_lit]
  obtain ⟨h0, h1⟩ := hc (j / 2) (by omega)
  rcases Nat.mod_two_eq_zero_or_one j with z | z
  · rw [show off + j = off + j / 2 * 2 by omega, h0, show 2 * (j / 2) = j by omega]; exact hu
  · rw [show off + j = off + j / 2 * 2 + 1 by omega, h1, show 2 * (j / 2) + 1 = j by omega]; exact hu
end Go.Proofs.YtdmpiipllmjloaaGreat
