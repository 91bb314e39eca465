/- Raw writes of the script's own: built one by one, and written over. -/
import Derived.Test.YtdicogmjjboilaaDsk4
namespace Go.Proofs.Ytdicogmjjboilaa
open Go.RowKit

theorem info45 : (Try.prog.info? 45).map (fun i => (i.zero, i.size, i.bytes)) = some (some (.agg #[.int .i64 0, .int .i64 0, .int .i64 0, .slice none 0 0]), 4, 48) := by kernel_rfl
/-- The values of n raw writes. -/
def ptv (D : Nat → Pt) (B : Nat → Option Addr) (K : Nat → Nat) : Nat → List Value
  | 0 => []
  | n + 1 => ptv D B K n ++ [.int .i64 (D n).d, .int .i64 (D n).r, .int .i64 (D n).s, .slice (B n) (D n).b.length (K n)]
theorem ptv_length (D : Nat → Pt) (B : Nat → Option Addr) (K : Nat → Nat) : ∀ n, (ptv D B K n).length = n * 4
  | 0 => rfl
  | n + 1 => by rw [ptv, List.length_append, ptv_length D B K n]; show n * 4 + 4 = _; omega
theorem ptv_get (D : Nat → Pt) (B : Nat → Option Addr) (K : Nat → Nat) : ∀ n i, i < n → (ptv D B K n)[i * 4]? = some (.int .i64 (D i).d) ∧ (ptv D B K n)[i * 4 + 1]? = some (.int .i64 (D i).r) ∧ (ptv D B K n)[i * 4 + 2]? = some (.int .i64 (D i).s) ∧ (ptv D B K n)[i * 4 + 3]? = some (.slice (B i) (D i).b.length (K i))
  | 0, i, h => absurd h (Nat.not_lt_zero i)
  | n + 1, i, h => by
    rw [ptv]
    by_cases e : i = n
    · subst e
      have q : ∀ m, m < 4 → (ptv D B K i ++ [.int .i64 (D i).d, .int .i64 (D i).r, .int .i64 (D i).s, .slice (B i) (D i).b.length (K i)])[i * 4 + m]? = ([.int .i64 (D i).d, .int .i64 (D i).r, .int .i64 (D i).s, .slice (B i) (D i).b.length (K i)] : List Value)[m]? := fun m _ => by
        rw [List.getElem?_append_right (by rw [ptv_length]; omega), ptv_length, show i * 4 + m - i * 4 = m by omega]
      exact ⟨q 0 (by omega), q 1 (by omega), q 2 (by omega), q 3 (by omega)⟩
    · have q : ∀ m, m < 4 → (ptv D B K n ++ [.int .i64 (D n).d, .int .i64 (D n).r, .int .i64 (D n).s, .slice (B n) (D n).b.length (K n)])[i * 4 + m]? = (ptv D B K n)[i * 4 + m]? := fun m hm => List.getElem?_append_left (by rw [ptv_length]; omega)
      obtain ⟨a0, a1, a2, a3⟩ := ptv_get D B K n i (by omega)
      exact ⟨(q 0 (by omega)).trans a0, (q 1 (by omega)).trans a1, (q 2 (by omega)).trans a2, (q 3 (by omega)).trans a3⟩
theorem ptv_congr {D : Nat → Pt} {B B' : Nat → Option Addr} {K K' : Nat → Nat} : ∀ n, (∀ i, i < n → B i = B' i ∧ K i = K' i) → ptv D B K n = ptv D B' K' n
  | 0, _ => rfl
  | n + 1, h => by rw [ptv, ptv, ptv_congr n (fun i hi => h i (by omega)), (h n (by omega)).1, (h n (by omega)).2]
/-- n raw writes in memory of the call's own, from block V on. -/
def Pus (w : World) (V : Nat) (ao : Option Addr) (n cap : Nat) (D : Nat → Pt) (B : Nat → Option Addr) (K : Nat → Nat) : Prop :=
  w.ownsRow V 45 4 (.slice ao n cap) n (ptv D B K n) ∧ Sls w V ao n B K (fun j => (D j).b)
theorem pus_nil (w : World) (V : Nat) (D : Nat → Pt) (B : Nat → Option Addr) (K : Nat → Nat) : Pus w V none 0 0 D B K := ⟨World.ownsRow_nil _ _ _ _, fun j hj => absurd hj (Nat.not_lt_zero j)⟩
theorem Pus.stay {w w' : World} {V : Nat} {ao : Option Addr} {n cap : Nat} {D : Nat → Pt} {B : Nat → Option Addr} {K : Nat → Nat} (h : Pus w V ao n cap D B K) (hs : w.heap.size ≤ w'.heap.size) (hb : ∀ g, V ≤ g → g < w.heap.size → w'.heap[g]? = w.heap[g]?) : Pus w' V ao n cap D B K := by
  refine ⟨owns_stay h.1 hb, fun j hj => ?_⟩
  obtain ⟨q1, q2, q3, q4⟩ := h.2 j hj
  exact ⟨rdb_stay q1 (fun a ha => hb _ (q2 a ha).1 (q2 a ha).2.1), fun a ha => by obtain ⟨p1, p2, p3⟩ := q2 a ha; exact ⟨p1, by omega, p3⟩, q3, wrb_stay q4 (fun a ha => hb _ (q2 a ha).1 (q2 a ha).2.1) hs⟩
theorem pus_step {wr wb wn : World} {V : Nat} {ao an : Option Addr} {i cap cn g2 cap2 : Nat} {D : Nat → Pt} {B : Nat → Option Addr} {K : Nat → Nat} {XS : List Value}
    (hX : XS = ptv D B K i) (hV : V ≤ wr.heap.size) (hp : Pus wr V ao i cap D B K) (hbb : Below wr.heap.size wr wb) (h1 : RdB wb an (D i).b) (h2 : ∀ a, an = some a → wr.heap.size ≤ a.block ∧ a.block < wb.heap.size) (h3 : an = none → (D i).b = [] ∧ cn = 0) (h4 : Wrb wb an (D i).b.length cn)
    (ho : wn.ownsRow V 45 4 (.slice (some ⟨g2, 0, none⟩) (i + 1) cap2) (i + 1) (XS ++ [.int .i64 (D i).d, .int .i64 (D i).r, .int .i64 (D i).s, .slice an (D i).b.length cn])) (hg : ∀ x, x < wb.heap.size → (∀ a, ao = some a → x ≠ a.block) → wn.heap[x]? = wb.heap[x]?) (hw : (∃ a, ao = some a ∧ a.block = g2) ∨ g2 = wb.heap.size + 1) (hz : wb.heap.size + 1 ≤ wn.heap.size) :
    Pus wn V (some ⟨g2, 0, none⟩) (i + 1) cap2 D (upd i an B) (upd i cn K) := by
  have hs := hbb.size
  have haol : ∀ a, ao = some a → a.block < wr.heap.size := fun a ha => (hp.1.lt a.block (by subst ha; rfl)).2
  have hold : ∀ j, j < i → ∀ a, B j = some a → wn.heap[a.block]? = wr.heap[a.block]? := fun j hj a ha => by
    obtain ⟨_, q2, _⟩ := hp.2 j hj
    obtain ⟨q3, q4, q5⟩ := q2 a ha
    rw [hg _ (by omega) (fun d hd => q5 d hd), hbb.block _ q4]
  have hnew : ∀ a, an = some a → wn.heap[a.block]? = wb.heap[a.block]? := fun a ha => by
    have := h2 a ha
    rw [hg _ (by omega) (fun d hd e => by have := haol d hd; omega)]
  refine ⟨?_, ?_⟩
  · rw [show ptv D (upd i an B) (upd i cn K) (i + 1) = XS ++ [.int .i64 (D i).d, .int .i64 (D i).r, .int .i64 (D i).s, .slice an (D i).b.length cn] by
      rw [ptv, upd_at, upd_at, hX, ptv_congr i (B := upd i an B) (K := upd i cn K) (B' := B) (K' := K) fun j hj => ⟨upd_ne _ _ (by omega), upd_ne _ _ (by omega)⟩]]
    exact ho
  · intro j hj
    by_cases e : j = i
    · subst e
      rw [upd_at, upd_at]
      refine ⟨rdb_stay h1 hnew, fun a ha => ?_, h3, wrb_stay h4 hnew (by omega)⟩
      have := h2 a ha
      refine ⟨by omega, by omega, fun d hd e2 => ?_⟩
      cases hd
      simp only at e2
      rcases hw with ⟨x, e, e3⟩ | e3
      · have := haol x e; omega
      · omega
    · rw [upd_ne _ _ e, upd_ne _ _ e]
      obtain ⟨q1, q2, q3, q4⟩ := hp.2 j (by omega)
      refine ⟨rdb_stay q1 (hold j (by omega)), fun a ha => ?_, q3, wrb_stay q4 (hold j (by omega)) (by omega)⟩
      obtain ⟨q5, q6, q7⟩ := q2 a ha
      refine ⟨q5, by omega, fun d hd e2 => ?_⟩
      cases hd
      simp only at e2
      rcases hw with ⟨x, e, e3⟩ | e3
      · exact q7 x e (by omega)
      · omega
theorem pus_at {w : World} {V : Nat} {ao : Option Addr} {n cap : Nat} {D : Nat → Pt} {B : Nat → Option Addr} {K : Nat → Nat} (h : Pus w V ao n cap D B K) (hn : 0 < n) : ∃ l, ao = some ⟨l, 0, none⟩ ∧ V ≤ l ∧ l < w.heap.size ∧ ∀ i, i < n → w.cell? ⟨l, i * 4, none⟩ = some (.int .i64 (D i).d) ∧ w.cell? ⟨l, i * 4 + 1, none⟩ = some (.int .i64 (D i).r) ∧ w.cell? ⟨l, i * 4 + 2, none⟩ = some (.int .i64 (D i).s) ∧ w.cell? ⟨l, i * 4 + 3, none⟩ = some (.slice (B i) (D i).b.length (K i)) := by
  have ho := h.1
  rcases ho.2 with ⟨e, h0⟩ | ⟨g, cap', cur, e, hB, hb, hc, _⟩
  · omega
  · cases e
    refine ⟨g, rfl, hB, (Array.getElem?_eq_some_iff.1 hb).1, fun i hi => ?_⟩
    obtain ⟨a0, a1, a2, a3⟩ := ptv_get D B K n i hi
    exact ⟨(World.ownsRow.cellAt ho (i * 4) (by omega)).trans a0, (World.ownsRow.cellAt ho (i * 4 + 1) (by omega)).trans a1, (World.ownsRow.cellAt ho (i * 4 + 2) (by omega)).trans a2, (World.ownsRow.cellAt ho (i * 4 + 3) (by omega)).trans a3⟩
theorem pus_pts {w : World} {V : Nat} {ao : Option Addr} {n cap : Nat} {D : Nat → Pt} {B : Nat → Option Addr} {K : Nat → Nat} (h : Pus w V ao n cap D B K) : Pts w (fun b => V ≤ b ∧ b < w.heap.size) ao n D B K := by
  refine ⟨fun hn => ?_, fun i hi => (h.2 i hi).1, fun i hi => (h.2 i hi).2.2.1, fun a hn ha => ?_, fun i a hi _ ha => ⟨((h.2 i hi).2.1 a ha).1, ((h.2 i hi).2.1 a ha).2.1⟩⟩
  · obtain ⟨l, e, _, _, hc⟩ := pus_at h hn
    exact ⟨l, 0, e, fun i hi => by rw [Nat.zero_add]; exact hc i hi⟩
  · obtain ⟨l, e, h1, h2, _⟩ := pus_at h hn
    rw [e] at ha
    cases ha
    exact ⟨h1, h2⟩
/-- Bytes that may be written over, of the blocks P. -/
def Wp (w : World) (P : Nat → Prop) (ao : Option Addr) (n : Nat) : Prop := n = 0 ∨ ∃ g, ao = some ⟨g, 0, none⟩ ∧ P g ∧ ∀ j, j < n → (w.cell? ⟨g, j, none⟩).isSome = true ∧ w.frozen? ⟨g, j, none⟩ = false
theorem Wp.set {w : World} {P : Nat → Prop} {ao : Option Addr} {n : Nat} (h : Wp w P ao n) (a : Addr) (v : Value) : Wp (w.setCell a v) P ao n := by
  rcases h with h | ⟨g, e, hp, hc⟩
  · exact .inl h
  · refine .inr ⟨g, e, hp, fun j hj => ⟨?_, (frozen_setC _ _ _ _).trans (hc j hj).2⟩⟩
    by_cases ea : a = ⟨g, j, none⟩
    · subst ea; rw [World.cell?_setCell_same' _ _ _ (hc j hj).1]; rfl
    · rw [World.cell?_setCell_other _ _ _ _ ea]; exact (hc j hj).1
theorem Wp.only {w w' : World} {P X : Nat → Prop} {ao : Option Addr} {n : Nat} (h : Wp w P ao n) (ho : Only X w w') (hx : ∀ b, P b → ¬ X b) : Wp w' P ao n := by
  rcases h with h | ⟨g, e, hp, hc⟩
  · exact .inl h
  · refine .inr ⟨g, e, hp, fun j hj => ?_⟩
    obtain ⟨v, hv⟩ := Option.isSome_iff_exists.1 (hc j hj).1
    have hl := World.block_lt_of_cell? w _ hv
    have hb := ho.block g hl (hx g hp)
    rw [World.cell?_of_block (a := ⟨g, j, none⟩) hb, World.frozen?_of_block (a := ⟨g, j, none⟩) hb]
    exact hc j hj
theorem Wp.mono {w : World} {P P' : Nat → Prop} {ao : Option Addr} {n : Nat} (h : Wp w P ao n) (hx : ∀ b, P b → P' b) : Wp w P' ao n := by
  rcases h with h | ⟨g, e, hp, hc⟩
  · exact .inl h
  · exact .inr ⟨g, e, hx _ hp, hc⟩
theorem wp_owb {w : World} {B : Nat} {ao : Option Addr} {cap : Nat} {b : List UInt8} (h : OwB B w ao cap b) : Wp w (fun x => B ≤ x ∧ x < w.heap.size) ao b.length := by
  rcases owb_slot h with q | ⟨g, q1, q2, q3⟩
  · exact .inl q.2.1
  · exact .inr ⟨g, q1, q2, fun j hj => q3 j (.inl hj)⟩
/-- Raw writes whose bytes may be written over, list and bytes of the blocks P. -/
def Pw (w : World) (P : Nat → Prop) (ao : Option Addr) (n : Nat) (B : Nat → Option Addr) (L K : Nat → Nat) : Prop :=
  0 < n → ∃ l, ao = some ⟨l, 0, none⟩ ∧ P l ∧ ∀ i, i < n → w.cell? ⟨l, i * 4 + 3, none⟩ = some (.slice (B i) (L i) (K i)) ∧ Wp w (fun b => P b ∧ b ≠ l) (B i) (L i)
theorem Pw.only {w w' : World} {P X : Nat → Prop} {ao : Option Addr} {n : Nat} {B : Nat → Option Addr} {L K : Nat → Nat} (h : Pw w P ao n B L K) (ho : Only X w w') (hx : ∀ b, P b → ¬ X b) : Pw w' P ao n B L K := fun hn => by
  obtain ⟨l, e, hp, hc⟩ := h hn
  exact ⟨l, e, hp, fun i hi => ⟨ho.cell (hc i hi).1 (hx l hp), (hc i hi).2.only ho (fun b hb => hx b hb.1)⟩⟩
theorem Pw.set {w : World} {P : Nat → Prop} {ao : Option Addr} {n : Nat} {B : Nat → Option Addr} {L K : Nat → Nat} (h : Pw w P ao n B L K) {l : Nat} (hl : ao = some ⟨l, 0, none⟩) (a : Addr) (ha : a.block ≠ l) (v : Value) : Pw (w.setCell a v) P ao n B L K := fun hn => by
  obtain ⟨l', e, hp, hc⟩ := h hn
  rw [hl] at e
  cases e
  exact ⟨l, hl, hp, fun i hi => ⟨(World.cell?_setCell_other _ _ _ _ (fun e => ha (congrArg Addr.block e))).trans (hc i hi).1, (hc i hi).2.set a v⟩⟩
theorem pw_pus {w : World} {V : Nat} {ao : Option Addr} {n cap : Nat} {D : Nat → Pt} {B : Nat → Option Addr} {K : Nat → Nat} (h : Pus w V ao n cap D B K) : Pw w (fun b => V ≤ b ∧ b < w.heap.size) ao n B (fun i => (D i).b.length) K := fun hn => by
  obtain ⟨l, e, h1, h2, hc⟩ := pus_at h hn
  refine ⟨l, e, ⟨h1, h2⟩, fun i hi => ⟨(hc i hi).2.2.2, ?_⟩⟩
  obtain ⟨_, q2, _, q4⟩ := h.2 i hi
  rcases q4 with q | ⟨g, e2, hg, hcell⟩
  · exact .inl q.2.1
  · have := q2 _ e2
    exact .inr ⟨g, e2, ⟨⟨this.1, hg⟩, this.2.2 _ e⟩, fun j hj => hcell j (.inl hj)⟩
end Go.Proofs.Ytdicogmjjboilaa
