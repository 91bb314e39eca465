/- The tallies of a row; which version counts: the program's answers. -/
import Derived.Test.YtmlnbnbgkpbjeaaCnF
namespace Go.Proofs.Ytmlnbnbgkpbjeaa
open Go.RowKit Go.Maps Go.ChangeShapes

theorem Tal.mono {B B' : Nat} {w : World} {a : Option Addr} {cap : Nat} {ts : List Tly} {f : Int → List Int} (h : Tal B w a cap ts f) (hb : B' ≤ B) : Tal B' w a cap ts f := ⟨row_mono h.row hb, fun t ht => ⟨row_mono (h.cel t ht).1 hb, (h.cel t ht).2⟩, h.far⟩
theorem Tal.below {B : Nat} {w w' : World} {a : Option Addr} {cap : Nat} {ts : List Tly} {f : Int → List Int} (h : Tal B w a cap ts f) (hb : Below w.heap.size w w') : Tal B w' a cap ts f := ⟨ownsRow_below h.row hb, fun t ht => ownsInts_below (h.cel t ht) hb, h.far⟩
theorem tal_nil (B : Nat) (w : World) (f : Int → List Int) : Tal B w none 0 [] f := ⟨World.ownsRow_nil _ _ _ _, fun t ht => absurd ht (by simp), List.Pairwise.nil⟩
theorem Tal.at_ {B : Nat} {w : World} {a : Option Addr} {cap : Nat} {ts : List Tly} {f : Int → List Int} (h : Tal B w a cap ts f) (hn : 0 < ts.length) : ∃ g, a = some ⟨g, 0, none⟩ ∧ B ≤ g ∧ g < w.heap.size := by
  rcases h.row.2 with ⟨_, h2⟩ | ⟨g, cp, cur, h2, h3, h4, _⟩
  · omega
  · simp only [Value.slice.injEq] at h2
    exact ⟨g, h2.1, h3, (Array.getElem?_eq_some_iff.1 h4).1⟩
theorem Tal.c0 {B : Nat} {w : World} {g cap : Nat} {ts : List Tly} {f : Int → List Int} (h : Tal B w (some ⟨g, 0, none⟩) cap ts f) {i : Nat} {t : Tly} (hi : ts[i]? = some t) : w.cell? ⟨g, i * 2, none⟩ = some (.int .i64 t.1) := by
  have hl := (List.getElem?_eq_some_iff.1 hi).1
  rw [World.ownsRow.cellAt h.row (i * 2) (by omega), tF_0 hi]
theorem Tal.c1 {B : Nat} {w : World} {g cap : Nat} {ts : List Tly} {f : Int → List Int} (h : Tal B w (some ⟨g, 0, none⟩) cap ts f) {i : Nat} {t : Tly} (hi : ts[i]? = some t) : w.cell? ⟨g, i * 2 + 1, none⟩ = some (.slice t.2.1 t.2.2.1 t.2.2.2) := by
  have hl := (List.getElem?_eq_some_iff.1 hi).1
  rw [World.ownsRow.cellAt h.row (i * 2 + 1) (by omega), tF_1 hi]
theorem ints_len {w : World} {B : Nat} {e : TypeId} {q : IntKind} {a : Option Addr} {n cap : Nat} {zs : List Int} (h : w.ownsInts B e q (.slice a n cap) zs) : n = zs.length := by
  rcases h.1.2 with ⟨h2, h3⟩ | ⟨g, cp, cur, h2, _⟩
  · simp only [Value.slice.injEq] at h2; omega
  · simp only [Value.slice.injEq] at h2; exact h2.2.1
theorem Tal.len {B : Nat} {w : World} {a : Option Addr} {cap : Nat} {ts : List Tly} {f : Int → List Int} (h : Tal B w a cap ts f) {i : Nat} {t : Tly} (hi : ts[i]? = some t) : t.2.2.1 = (f t.1).length := ints_len (h.cel t (List.mem_of_getElem? hi))
/-- Tallies that are told, and an error. -/
def AnsTl (w : World) (E : Int) (P Q : Nat → Int) (n : Nat) (e : Ending) (w' : World) : Prop :=
  ∃ a cap ts, e = .returned (.tuple #[.slice a (ts.length : Nat) cap, .int .i64 E]) ∧ Tal w.heap.size w' a cap ts (dv P Q n) ∧ ts.map (fun t => t.1) = (if E = 0 then tvL P Q n else []) ∧ Below w.heap.size w w'

set_option maxHeartbeats 4000000 in
set_option maxRecDepth 100000 in
theorem Tallies_any {k r c q : Int} {N W : Nat} {x : Int} (h : Par k r c q N W x) (w : World) (ro : Option Addr) (rn rc : Nat) (A : Nat → Option Addr) (L C : Nat → Nat) (F : Nat → Nat → UInt8) (hr : Rw w ro rn A L C F) (E : Int) (hE : erR x N c rn L = E) :
    Calls Try.prog 8 #[.agg #[.int .i64 k, .int .i64 r, .int .i64 c, .int .i64 q], .slice ro rn rc] w (AnsTl w E (hP N c L F) (hQ N c L F) N) := by
  obtain ⟨w0, hw0⟩ : ∃ w0, w0 = w.alloc (.cells #[.int .i64 k, .int .i64 r, .int .i64 c, .int .i64 q] 23) := ⟨_, rfl⟩
  have b0 : Below w.heap.size w w0 := by rw [hw0]; exact below_alloc _ _
  have HH := holdings_any h w0 ro rn rc A L C F (hr.below b0) E hE
  have hle := h.le
  have HB : Hid ((∀ i, 0 ≤ hP N c L F i ∧ hP N c L F i ≤ 1073741824) ∧ (∀ i, 0 ≤ hQ N c L F i ∧ hQ N c L F i ≤ 1073741824) ∧ ∀ i, hQ N c L F i = 0 ∨ hQ N c L F i ≠ hP N c L F i) := ⟨hP_bd N c L F, hQ_bd N c L F, hPQ N c L F⟩
  unfold AnsH at HH
  unfold AnsTl
  clear hr hE h
  generalize hP N c L F = P at *
  generalize hQ N c L F = Q at *
  by_cases e0 : E = 0
  · subst e0
    rw [show lenE 0 N = N from rfl] at HH
    rw [if_pos rfl]
    go_enter Try.func8, Try.ntmps8
    go_wp2_with fail
    rw [← hw0]
    refine HH.mono ?_
    rintro e wa ⟨a, cap, rfl, hh, ha⟩
    have BA : Hid (Below w.heap.size w wa) := below_then b0 ha
    have HO := holders_any wa a N cap P Q hh hle (fun i _ => HB.out.1 i) (fun i _ => HB.out.2.1 i) (fun i _ => HB.out.2.2 i)
    clear hh ha b0 hw0 HH
    go_wp2_with fail
    refine HO.mono ?_
    rintro e wb ⟨D, m, rfl, hg, hm, hgd, hb⟩
    have BB : Hid (Below wa.heap.size wa wb) := hb
    have hlt : wa.heap.size < wb.heap.size := by
      obtain ⟨es, clock, h1, _⟩ := hg
      exact (Array.getElem?_eq_some_iff.1 h1).1
    have hfb : ∀ x, dv P Q N x ≠ [] → 0 ≤ x ∧ x ≤ 1073741824 := fun x hx => by
      obtain ⟨y, hy⟩ := List.exists_mem_of_ne_nil _ hx
      obtain ⟨d, h1, h2, _⟩ := mem_dl.1 hy
      rcases of_decide_eq_true h2 with e | e
      · rw [← e]; exact HB.out.1 d
      · rw [← e]; exact HB.out.2.1 d
    have HS := sorted_any wb (wa.heap.size + 1) wa.heap.size m D _ hg hgd hfb hm (by omega)
    clear hg hgd hfb hm hb HO
    go_wp2_with fail
    refine HS.mono ?_
    rintro e wc ⟨a2, cap2, ts, rfl, ht, hfall, hmem, hc⟩
    have HT : Hid (Tal (wa.heap.size + 1) wc a2 cap2 ts (dv P Q N) ∧ ts.map (fun t => t.1) = tvL P Q N ∧ Below wb.heap.size wb wc) := ⟨ht, fall_eq hfall (tvL_fall P Q N) (fun v => (hmem v).trans mem_tv.symm), hc⟩
    clear ht hfall hmem hc HS
    go_wp2_with fail
    go_ret2
    exact ⟨a2, cap2, ts, rfl, HT.out.1.mono (by have := BA.out.size; omega), HT.out.2.1, below_then (below_then BA.out BB.out) HT.out.2.2⟩
  · have hq : (E != 0) = true := by simpa using e0
    rw [show lenE E N = 0 from if_neg e0] at HH
    rw [if_neg e0]
    go_enter Try.func8, Try.ntmps8
    go_wp2_with fail
    rw [← hw0]
    refine HH.mono ?_
    rintro e wa ⟨a, cap, rfl, hh, ha⟩
    have BA : Hid (Below w.heap.size w wa) := below_then b0 ha
    clear hh ha b0 hw0 HH
    go_wp2_with fail
    go_ret2
    exact ⟨none, 0, [], rfl, tal_nil _ _ _, rfl, BA.out⟩
set_option maxHeartbeats 400000 in
theorem enough_any (w : World) (k r c q v : Int) (a : Option Addr) (n cp : Nat) :
    Calls Try.prog 29 #[.agg #[.int .i64 k, .int .i64 r, .int .i64 c, .int .i64 q], .agg #[.int .i64 v, .slice a n cp]] w fun e w' => e = .returned (.bool (decide (k ≤ (n : Int)))) ∧ Below w.heap.size w w' := by
  go_enter Try.func29, Try.ntmps29
  go_wp2
  go_ret
  exact ⟨rfl, b_alloc (below_alloc _ _) _⟩
theorem win_hit {p : Int → Bool} {l : List Int} {i : Nat} {v : Int} (h : l[i]? = some v) (hp : p v = true) : (l.filter p)[((l.take i).filter p).length]? = some v := by
  have hi := (List.getElem?_eq_some_iff.1 h).1
  have hv := (List.getElem?_eq_some_iff.1 h).2
  have e : l.take i ++ v :: l.drop (i + 1) = l := by
    have e1 := List.take_append_drop i l
    rw [List.drop_eq_getElem_cons hi, hv] at e1
    exact e1
  have e2 : l.filter p = (l.take i).filter p ++ v :: (l.drop (i + 1)).filter p := by
    rw [← List.filter_cons_of_pos hp, ← List.filter_append, e]
  rw [e2, List.getElem?_append_right (Nat.le_refl _)]
  simp
theorem take_step {p : Int → Bool} {l : List Int} {i : Nat} {v : Int} (h : l[i]? = some v) : ((l.take (i + 1)).filter p).length = ((l.take i).filter p).length + (if p v = true then 1 else 0) := by
  rw [List.take_add_one, h, List.filter_append, List.length_append]
  congr 1
  cases hp : p v <;> simp [hp]
end Go.Proofs.Ytmlnbnbgkpbjeaa
