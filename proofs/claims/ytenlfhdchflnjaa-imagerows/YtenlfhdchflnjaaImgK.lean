/- Lists of the call's own that are made one by one; bytes appended to none. -/
import Derived.Test.YtenlfhdchflnjaaImgJ
namespace Go.Proofs.Ytenlfhdchflnjaa
open Go.RowKit

theorem info35 : (Try.prog.info? 35).map (fun i => (i.zero, i.size, i.bytes)) = some (some (.agg #[.int .i64 0, .int .i64 0, .int .i64 0, .slice none 0 0]), 4, 48) := by kernel_rfl
theorem info59 : (Try.prog.info? 59).map (fun i => (i.zero, i.size, i.bytes)) = some (some (.agg #[.slice none 0 0, .slice none 0 0]), 2, 48) := by kernel_rfl
theorem owns_stay {B : Nat} {w w' : World} {t : TypeId} {s : Nat} {v : Value} {n : Nat} {xs : List Value} (h : w.ownsRow B t s v n xs) (hb : ∀ g, B ≤ g → g < w.heap.size → w'.heap[g]? = w.heap[g]?) : w'.ownsRow B t s v n xs := by
  refine ⟨h.1, ?_⟩
  rcases h.2 with h1 | ⟨g, cap', cur, h1, h2, h3, h4⟩
  · exact .inl h1
  · exact .inr ⟨g, cap', cur, h1, h2, by rw [hb g h2 (Array.getElem?_eq_some_iff.1 h3).1]; exact h3, h4⟩
theorem rdb_stay {w w' : World} {ao : Option Addr} {c : List UInt8} (h : RdB w ao c) (hb : ∀ a, ao = some a → w'.heap[a.block]? = w.heap[a.block]?) : RdB w' ao c := by
  intro hc
  obtain ⟨b, off, rfl, hr⟩ := h hc
  exact ⟨b, off, rfl, fun j hj => (World.cell?_of_block (a := ⟨b, off + j, none⟩) (hb ⟨b, off, none⟩ rfl)).trans (hr j hj)⟩
/-- Bytes in new memory. -/
def NewB (w w' : World) (ao : Option Addr) (cap : Nat) (c : List UInt8) : Prop :=
  RdB w' ao c ∧ (∀ a, ao = some a → w.heap.size ≤ a.block ∧ a.block < w'.heap.size) ∧ (ao = none → c = [] ∧ cap = 0) ∧ Below w.heap.size w w'
theorem wp_app {o : Oper} {a : Act} {w : World} {K : Act → World → Prop} {Q : Exit → Act → World → Prop} (s x : Operand) (ho : o.op = .call { callee := .builtin .append, args := #[s, x], argTypes := #[33, 33] }) (hs : a.eval s = .slice none 0 0) (ao : Option Addr) (n cp : Nat) (c : List UInt8) (hx : a.eval x = .slice ao n cp) (hn : n = c.length) (hr : RdB w ao c) (hnil : ao = none → c = [] ∧ cp = 0) (hc : c.length ≤ 140737488355328)
    (h : ∀ ao' cap' w', NewB w w' ao' cap' c → K (a.put o.dst (.slice ao' n cap')) w') : o.wp Try.prog a w K Q := by
  subst hn
  obtain ⟨i0, hi, hz0, hz1, hz2⟩ := info_parts info5
  cases ao with
  | none =>
    obtain ⟨rfl, rfl⟩ := hnil rfl
    have hrun := run_append_owned_none (P := Try.prog) (w := w) w.heap.size 33 o.type 5 i0 1 Try.underlying33 hi (.slice none 0 0) 0 [] (World.ownsRow_nil _ _ _ _)
    have hx' : a.eval x = .slice none 0 0 := hx
    unfold Oper.wp
    simp [execOp, ho, resolve, invoke, builtin, hs, hx', hrun, Result.andThen]
    exact h none 0 w ⟨rdb_nil _ _, (fun a e => by cases e), fun _ => ⟨rfl, rfl⟩, Below.refl _ _⟩
  | some ad =>
    refine wp_append_own w s x 33 ho w.heap.size 5 i0 (.int .u8 0) 1 1 Try.underlying33 hi hz0 hz1 hz2 (by rfl) (by decide) (.slice none 0 0) 0 [] hs (World.ownsRow_nil _ _ _ _) ad c.length cp (bys c) hx (by rw [bys_length, Nat.mul_one]) (rdb_news hr) (bys_one c) (by unfold maxLen; omega) (by omega) (Nat.le_refl _) ?_
    intro v' w' hown hgrow _
    rw [Nat.zero_add, List.nil_append] at hown
    have hb : Below w.heap.size w w' := (Below.refl _ w).grown hgrow (Nat.le_refl _) (fun k e => by cases e)
    rcases hown.2 with ⟨e, h0⟩ | ⟨g, cap, cur, e, hg⟩
    · subst e
      have hc0 : c = [] := List.length_eq_zero_iff.1 h0
      have := h none 0 w' ⟨by rw [hc0]; exact rdb_nil _ _, (fun a e => by cases e), fun _ => ⟨hc0, rfl⟩, hb⟩
      rwa [h0] at this
    · subst e
      have ho : OwB w.heap.size w' (some ⟨g, 0, none⟩) cap c := hown
      exact h (some ⟨g, 0, none⟩) cap w' ⟨ho.rd, fun a ha => ho.at_ ha, (fun e => by cases e), hb⟩
theorem wpList_app {ops : Array Oper} {rest : List Oper} {o : Oper} {a : Act} {w : World} {Q : Exit → Act → World → Prop} (hgd : o.guard = none) (s x : Operand) (ho : o.op = .call { callee := .builtin .append, args := #[s, x], argTypes := #[33, 33] }) (hs : a.eval s = .slice none 0 0) (ao : Option Addr) (n cp : Nat) (c : List UInt8) (hx : a.eval x = .slice ao n cp) (hn : n = c.length) (hr : RdB w ao c) (hnil : ao = none → c = [] ∧ cp = 0) (hc : c.length ≤ 140737488355328)
    (h : ∀ ao' cap' w', NewB w w' ao' cap' c → wpList Try.prog ops Q rest (a.put o.dst (.slice ao' n cap')) w') : wpList Try.prog ops Q (o :: rest) a w :=
  wpList_plain hgd fun _ hK => wp_app s x ho hs ao n cp c hx hn hr hnil hc fun ao' cap' w' h1 => hK _ _ (h ao' cap' w' h1)
theorem step_app {ops : Array Oper} {o : Oper} {a : Act} {w : World} {K : Act → World → Prop} {Q : Exit → Act → World → Prop} {E : Prop} (hgd : o.guard = none) (s x : Operand) (ho : o.op = .call { callee := .builtin .append, args := #[s, x], argTypes := #[33, 33] }) (hs : a.eval s = .slice none 0 0) (ao : Option Addr) (n cp : Nat) (c : List UInt8) (hx : a.eval x = .slice ao n cp) (hn : n = c.length) (hr : RdB w ao c) (hnil : ao = none → c = [] ∧ cp = 0) (hc : c.length ≤ 140737488355328)
    (h : ∀ ao' cap' w', NewB w w' ao' cap' c → K (a.put o.dst (.slice ao' n cap')) w') : if Region.wanted o (yielded ops a.tmps) = true then Oper.wp Try.prog o a w K Q else E := by
  have hw : Region.wanted o (yielded ops a.tmps) = true := by simp [Region.wanted, hgd]
  rw [if_pos hw]
  exact wp_app s x ho hs ao n cp c hx hn hr hnil hc h
/-- The values of n slots. -/
def svs (A : Nat → Option Addr) (C : Nat → Nat) (F : Nat → List UInt8) : Nat → List Value
  | 0 => []
  | n + 1 => svs A C F n ++ [.slice (A n) (F n).length (C n)]
theorem svs_length (A : Nat → Option Addr) (C : Nat → Nat) (F : Nat → List UInt8) : ∀ n, (svs A C F n).length = n
  | 0 => rfl
  | n + 1 => by rw [svs, List.length_append, svs_length A C F n]; rfl
theorem svs_get (A : Nat → Option Addr) (C : Nat → Nat) (F : Nat → List UInt8) : ∀ n i, i < n → (svs A C F n)[i]? = some (.slice (A i) (F i).length (C i))
  | 0, i, h => absurd h (Nat.not_lt_zero i)
  | n + 1, i, h => by
    rw [svs]
    by_cases e : i = n
    · subst e; rw [List.getElem?_append_right (by rw [svs_length]; omega), svs_length, Nat.sub_self]; rfl
    · rw [List.getElem?_append_left (by rw [svs_length]; omega)]; exact svs_get A C F n i (by omega)
theorem svs_congr {A A' : Nat → Option Addr} {C C' : Nat → Nat} {F F' : Nat → List UInt8} : ∀ n, (∀ i, i < n → A i = A' i ∧ C i = C' i ∧ F i = F' i) → svs A C F n = svs A' C' F' n
  | 0, _ => rfl
  | n + 1, h => by rw [svs, svs, svs_congr n (fun i hi => h i (by omega)), (h n (by omega)).1, (h n (by omega)).2.1, (h n (by omega)).2.2]
theorem svs_snoc (A : Nat → Option Addr) (C : Nat → Nat) (F : Nat → List UInt8) (n : Nat) (an : Option Addr) (cn : Nat) (c : List UInt8) : svs (upd n an A) (upd n cn C) (upd n c F) (n + 1) = svs A C F n ++ [.slice an c.length cn] := by
  rw [svs, upd_at, upd_at, upd_at, svs_congr n fun j hj => ⟨upd_ne _ _ (by omega), upd_ne _ _ (by omega), upd_ne _ _ (by omega)⟩]
/-- The slots that were made so far: none of them in the list's block. -/
def Sls (tg : Bool) (w : World) (V : Nat) (ao : Option Addr) (n : Nat) (A : Nat → Option Addr) (C : Nat → Nat) (F : Nat → List UInt8) : Prop :=
  ∀ j, j < n → RdB w (A j) (F j) ∧ (∀ a, A j = some a → V ≤ a.block ∧ a.block < w.heap.size ∧ ∀ d, ao = some d → a.block ≠ d.block) ∧ (A j = none → F j = [] ∧ C j = 0) ∧ (tg = true → OwC V w (A j) (C j) (F j))
theorem sls_nil (tg : Bool) (w : World) (V : Nat) (ao : Option Addr) (A : Nat → Option Addr) (C : Nat → Nat) (F : Nat → List UInt8) : Sls tg w V ao 0 A C F := fun j hj => absurd hj (Nat.not_lt_zero j)
theorem Sls.stay {tg : Bool} {w w' : World} {V : Nat} {ao : Option Addr} {n : Nat} {A : Nat → Option Addr} {C : Nat → Nat} {F : Nat → List UInt8} (h : Sls tg w V ao n A C F) (hs : w.heap.size ≤ w'.heap.size) (ao' : Option Addr) (hb : ∀ g, V ≤ g → g < w.heap.size → (∀ d, ao = some d → g ≠ d.block) → w'.heap[g]? = w.heap[g]? ∧ ∀ d, ao' = some d → g ≠ d.block) : Sls tg w' V ao' n A C F := fun j hj => by
  obtain ⟨q1, q2, q3, q4⟩ := h j hj
  refine ⟨rdb_stay q1 fun a ha => (hb _ (q2 a ha).1 (q2 a ha).2.1 (q2 a ha).2.2).1, fun a ha => ⟨(q2 a ha).1, by have := (q2 a ha).2.1; omega, (hb _ (q2 a ha).1 (q2 a ha).2.1 (q2 a ha).2.2).2⟩, q3, fun ht => ?_⟩
  rcases q4 ht with h | ⟨g, e, h1, h2, h3, hg⟩
  · exact .inl h
  · have := q2 _ e
    exact .inr ⟨g, e, h1, h2, h3, by rw [(hb g this.1 this.2.1 this.2.2).1]; exact hg⟩
theorem Sls.below {tg : Bool} {w w' : World} {V : Nat} {ao : Option Addr} {n : Nat} {A : Nat → Option Addr} {C : Nat → Nat} {F : Nat → List UInt8} (h : Sls tg w V ao n A C F) (hb : Below w.heap.size w w') : Sls tg w' V ao n A C F := h.stay hb.size ao fun g _ hg hd => ⟨hb.block g hg, hd⟩
theorem Sls.add {tg : Bool} {w : World} {V : Nat} {ao : Option Addr} {n : Nat} {A : Nat → Option Addr} {C : Nat → Nat} {F : Nat → List UInt8} (h : Sls tg w V ao n A C F) {an : Option Addr} {cn : Nat} {c : List UInt8} (h1 : RdB w an c) (h2 : ∀ a, an = some a → V ≤ a.block ∧ a.block < w.heap.size ∧ ∀ d, ao = some d → a.block ≠ d.block) (h3 : an = none → c = [] ∧ cn = 0) (h4 : tg = true → OwC V w an cn c) :
    Sls tg w V ao (n + 1) (upd n an A) (upd n cn C) (upd n c F) := fun j hj => by
  by_cases e : j = n
  · subst e; rw [upd_at, upd_at, upd_at]; exact ⟨h1, h2, h3, h4⟩
  · rw [upd_ne _ _ e, upd_ne _ _ e, upd_ne _ _ e]; exact h j (by omega)
theorem Sls.grow {tg : Bool} {w w' : World} {V : Nat} {ao : Option Addr} {n m : Nat} {cap : Nat} {A : Nat → Option Addr} {C : Nat → Nat} {F : Nat → List UInt8} (h : Sls tg w V ao n A C F) {g2 : Nat} (hg : w.grownBy w' (Value.slice ao m cap).ownBlock) (hw : (Value.slice ao m cap).ownBlock = some g2 ∨ g2 = w.heap.size) : Sls tg w' V (some ⟨g2, 0, none⟩) n A C F := by
  have hb : ∀ d, ao = some d → (Value.slice ao m cap).ownBlock = some d.block := fun d hd => by subst hd; rfl
  refine h.stay hg.size _ fun g _ hl hd => ⟨hg.block g hl fun e => ?_, fun d e => ?_⟩
  · cases ao with
    | none => cases e
    | some a => rw [hb a rfl] at e; exact hd a rfl (Option.some.inj e)
  · cases e
    rcases hw with e | e
    · cases ao with
      | none => cases e
      | some a => rw [hb a rfl] at e; rw [← Option.some.inj e]; exact hd a rfl
    · simp only; omega
theorem own_lst {tg : Bool} {w : World} {V : Nat} {ao : Option Addr} {t : TypeId} {s n m cap : Nat} {A : Nat → Option Addr} {C : Nat → Nat} {F : Nat → List UInt8} (h : w.ownsRow V t s (.slice ao m cap) m (svs A C F n)) (hs : Sls tg w V ao n A C F) : Lst w ao n A C F := by
  refine ⟨fun hn => ?_, fun i hi => (hs i hi).1, fun i hi => (hs i hi).2.2.1⟩
  have hl := h.1
  rw [svs_length] at hl
  rcases h.2 with ⟨e, h0⟩ | ⟨g, cap', cur, e, hB, hb, hc, _⟩
  · rw [h0] at hl; omega
  · cases e
    refine ⟨g, 0, rfl, fun i hi => ?_⟩
    rw [Nat.zero_add, World.ownsRow.cellAt h i (by omega)]
    exact svs_get A C F n i hi
theorem own_rsl {tg : Bool} {w : World} {V : Nat} {ao : Option Addr} {t : TypeId} {s n m cap : Nat} {A : Nat → Option Addr} {C : Nat → Nat} {F : Nat → List UInt8} (h : w.ownsRow V t s (.slice ao m cap) m (svs A C F n)) (hs : Sls tg w V ao n A C F) (hn : 0 < n) : ∃ l, ao = some ⟨l, 0, none⟩ ∧ RSl w (fun b => V ≤ b) l n A C F := by
  have hl := h.1
  rw [svs_length] at hl
  rcases h.2 with ⟨e, h0⟩ | ⟨g, cap', cur, e, hB, hb, hc, _⟩
  · rw [h0] at hl; omega
  · cases e
    refine ⟨g, rfl, fun i hi => ?_, fun i _ => by simp [World.frozen?, hb], fun i hi => (hs i hi).1, fun i a hi ha => ⟨((hs i hi).2.1 a ha).1, ((hs i hi).2.1 a ha).2.2 _ rfl⟩, fun i hi => (hs i hi).2.2.1, hB⟩
    rw [World.ownsRow.cellAt h i (by omega)]
    exact svs_get A C F n i hi
/-- The values of n raw writes. -/
def ptv (D : Nat → Pt) (B : Nat → Option Addr) (K : Nat → Nat) : Nat → List Value
  | 0 => []
  | n + 1 => ptv D B K n ++ [.int .i64 (D n).d, .int .i64 (D n).r, .int .i64 (D n).s, .slice (B n) (D n).b.length (K n)]
theorem ptv_length (D : Nat → Pt) (B : Nat → Option Addr) (K : Nat → Nat) : ∀ n, (ptv D B K n).length = n * 4
  | 0 => rfl
  | n + 1 => by rw [ptv, List.length_append, ptv_length D B K n]; show n * 4 + 4 = _; omega
theorem ptv_get (D : Nat → Pt) (B : Nat → Option Addr) (K : Nat → Nat) : ∀ n i, i < n → (ptv D B K n)[i * 4]? = some (.int .i64 (D i).d) ∧ (ptv D B K n)[i * 4 + 1]? = some (.int .i64 (D i).r) ∧ (ptv D B K n)[i * 4 + 2]? = some (.int .i64 (D i).s) ∧ (ptv D B K n)[i * 4 + 3]? = some (.slice (B i) (D i).b.length (K i))
  | 0, i, h => absurd h (Nat.not_lt_zero i)
  | n + 1, i, h => by
    rw [ptv]
    by_cases e : i = n
    · subst e
      have q : ∀ m, m < 4 → (ptv D B K i ++ [.int .i64 (D i).d, .int .i64 (D i).r, .int .i64 (D i).s, .slice (B i) (D i).b.length (K i)])[i * 4 + m]? = ([.int .i64 (D i).d, .int .i64 (D i).r, .int .i64 (D i).s, .slice (B i) (D i).b.length (K i)] : List Value)[m]? := fun m _ => by
        rw [List.getElem?_append_right (by rw [ptv_length]; omega), ptv_length, show i * 4 + m - i * 4 = m by omega]
      exact ⟨q 0 (by omega), q 1 (by omega), q 2 (by omega), q 3 (by omega)⟩
    · have q : ∀ m, m < 4 → (ptv D B K n ++ [.int .i64 (D n).d, .int .i64 (D n).r, .int .i64 (D n).s, .slice (B n) (D n).b.length (K n)])[i * 4 + m]? = (ptv D B K n)[i * 4 + m]? := fun m hm => List.getElem?_append_left (by rw [ptv_length]; omega)
      obtain ⟨a0, a1, a2, a3⟩ := ptv_get D B K n i (by omega)
      exact ⟨(q 0 (by omega)).trans a0, (q 1 (by omega)).trans a1, (q 2 (by omega)).trans a2, (q 3 (by omega)).trans a3⟩
theorem ptv_congr {D D' : Nat → Pt} {B B' : Nat → Option Addr} {K K' : Nat → Nat} : ∀ n, (∀ i, i < n → D i = D' i ∧ B i = B' i ∧ K i = K' i) → ptv D B K n = ptv D' B' K' n
  | 0, _ => rfl
  | n + 1, h => by rw [ptv, ptv, ptv_congr n (fun i hi => h i (by omega)), (h n (by omega)).1, (h n (by omega)).2.1, (h n (by omega)).2.2]
theorem ptv_snoc (D : Nat → Pt) (B : Nat → Option Addr) (K : Nat → Nat) (n : Nat) (y : Pt) (an : Option Addr) (cn : Nat) : ptv (upd n y D) (upd n an B) (upd n cn K) (n + 1) = ptv D B K n ++ [.int .i64 y.d, .int .i64 y.r, .int .i64 y.s, .slice an y.b.length cn] := by
  rw [ptv, upd_at, upd_at, upd_at, ptv_congr n fun j hj => ⟨upd_ne _ _ (by omega), upd_ne _ _ (by omega), upd_ne _ _ (by omega)⟩]
/-- n raw writes in memory of the call's own, from block V on. -/
def Pus (tg : Bool) (w : World) (V : Nat) (ao : Option Addr) (n cap : Nat) (D : Nat → Pt) (B : Nat → Option Addr) (K : Nat → Nat) : Prop :=
  w.ownsRow V 35 4 (.slice ao n cap) n (ptv D B K n) ∧ Sls tg w V ao n B K (fun j => (D j).b)
theorem pus_nil (tg : Bool) (w : World) (V : Nat) (D : Nat → Pt) (B : Nat → Option Addr) (K : Nat → Nat) : Pus tg w V none 0 0 D B K := ⟨World.ownsRow_nil _ _ _ _, sls_nil _ _ _ _ _ _ _⟩
theorem Pus.below {tg : Bool} {w w' : World} {V : Nat} {ao : Option Addr} {n cap : Nat} {D : Nat → Pt} {B : Nat → Option Addr} {K : Nat → Nat} (h : Pus tg w V ao n cap D B K) (hb : Below w.heap.size w w') : Pus tg w' V ao n cap D B K := ⟨owns_stay h.1 fun g _ hg => hb.block g hg, h.2.below hb⟩
theorem pus_at {tg : Bool} {w : World} {V : Nat} {ao : Option Addr} {n cap : Nat} {D : Nat → Pt} {B : Nat → Option Addr} {K : Nat → Nat} (h : Pus tg w V ao n cap D B K) (hn : 0 < n) : ∃ l, ao = some ⟨l, 0, none⟩ ∧ V ≤ l ∧ l < w.heap.size ∧ n ≤ cap ∧ ∀ i, i < n → w.cell? ⟨l, i * 4, none⟩ = some (.int .i64 (D i).d) ∧ w.cell? ⟨l, i * 4 + 1, none⟩ = some (.int .i64 (D i).r) ∧ w.cell? ⟨l, i * 4 + 2, none⟩ = some (.int .i64 (D i).s) ∧ w.cell? ⟨l, i * 4 + 3, none⟩ = some (.slice (B i) (D i).b.length (K i)) := by
  have ho := h.1
  rcases ho.2 with ⟨e, h0⟩ | ⟨g, cap', cur, e, hB, hb, hc, _⟩
  · omega
  · cases e
    refine ⟨g, rfl, hB, (Array.getElem?_eq_some_iff.1 hb).1, hc, fun i hi => ?_⟩
    obtain ⟨a0, a1, a2, a3⟩ := ptv_get D B K n i hi
    exact ⟨(World.ownsRow.cellAt ho (i * 4) (by omega)).trans a0, (World.ownsRow.cellAt ho (i * 4 + 1) (by omega)).trans a1, (World.ownsRow.cellAt ho (i * 4 + 2) (by omega)).trans a2, (World.ownsRow.cellAt ho (i * 4 + 3) (by omega)).trans a3⟩
theorem pus_cap {tg : Bool} {w : World} {V : Nat} {ao : Option Addr} {n cap : Nat} {D : Nat → Pt} {B : Nat → Option Addr} {K : Nat → Nat} (h : Pus tg w V ao n cap D B K) : n ≤ cap := by
  rcases h.1.2 with ⟨e, h0⟩ | ⟨g, cap', cur, e, hB, hb, hc, _⟩
  · omega
  · cases e; exact hc
theorem pus_pts {tg : Bool} {w : World} {V : Nat} {ao : Option Addr} {n cap : Nat} {D : Nat → Pt} {B : Nat → Option Addr} {K : Nat → Nat} (h : Pus tg w V ao n cap D B K) : Pts w (fun b => V ≤ b ∧ b < w.heap.size) ao n D B K := by
  refine ⟨fun hn => ?_, fun i hi => (h.2 i hi).1, fun i hi => (h.2 i hi).2.2.1, fun a hn ha => ?_, fun i a hi _ ha => ⟨((h.2 i hi).2.1 a ha).1, ((h.2 i hi).2.1 a ha).2.1⟩⟩
  · obtain ⟨l, e, _, _, _, hc⟩ := pus_at h hn
    exact ⟨l, 0, e, fun i hi => by rw [Nat.zero_add]; exact hc i hi⟩
  · obtain ⟨l, e, h1, h2, _⟩ := pus_at h hn
    rw [e] at ha
    cases ha
    exact ⟨h1, h2⟩
/-- One raw write more: its bytes were made in wb, the list has grown in wn. -/
theorem Pus.snoc {tg : Bool} {wb wn : World} {V : Nat} {ao : Option Addr} {n cap g2 cap2 : Nat} {D : Nat → Pt} {B : Nat → Option Addr} {K : Nat → Nat} {y : Pt} {an : Option Addr} {cn : Nat} {XS : List Value} (hX : XS = ptv D B K n) (hs : Sls tg wb V ao n B K (fun j => (D j).b)) (h1 : RdB wb an y.b) (h2 : ∀ a, an = some a → V ≤ a.block ∧ a.block < wb.heap.size ∧ ∀ d, ao = some d → a.block ≠ d.block) (h3 : an = none → y.b = [] ∧ cn = 0) (h4 : tg = true → OwC V wb an cn y.b)
    (ho : wn.ownsRow V 35 4 (.slice (some ⟨g2, 0, none⟩) (n + 1) cap2) (n + 1) (XS ++ [.int .i64 y.d, .int .i64 y.r, .int .i64 y.s, .slice an y.b.length cn])) (hg : wb.grownBy wn (Value.slice ao n cap).ownBlock) (hw : (Value.slice ao n cap).ownBlock = some g2 ∨ g2 = wb.heap.size) :
    Pus tg wn V (some ⟨g2, 0, none⟩) (n + 1) cap2 (upd n y D) (upd n an B) (upd n cn K) := by
  refine ⟨by rw [ptv_snoc, ← hX]; exact ho, ?_⟩
  have h5 := ((hs.add h1 h2 h3 h4).grow (m := n) (cap := cap) hg hw)
  have e : (fun j => (upd n y D j).b) = upd n y.b (fun j => (D j).b) := by funext j; unfold upd; by_cases e : j = n <;> simp [e]
  rw [e]
  exact h5
end Go.Proofs.Ytenlfhdchflnjaa
