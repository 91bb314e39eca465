import Derived.Maps.OwnSet
import Derived.DeepKeys4
import Derived.Laws.Cover3
import Derived.Test.YtngcdlodcdgcaaaGreatZk32
namespace Go.Proofs.YtngcdlodcdgcaaaGreat.Cod
open Go.RowKit
open Go.Maps (Keyed)
theorem laidOut : laidOutB Tryz.prog = true := by kernel_rfl
theorem row54 : (249 : TypeId) < Tryz.prog.types.size := of_decide_eq_true (by kernel_rfl)
theorem wide54 : (match Tryz.prog.underlying 249 with | some (.array _ _) | some (.struct _) => true | _ => false) = true := by kernel_rfl
set_option maxRecDepth 100000 in
theorem keyed : Keyed Tryz.prog 249 := Keyed.of_law (deep_law_laid laidOut (m := 3) (by omega) row54 (by kernel_rfl) wide54)
def key (k r c : Nat) : Value := .agg #[.int .i64 (k : Int), .int .i64 (r : Int), .int .i64 (c : Int)]
def keyLit (k r c : Nat) : Lit := .string (keyBytes [.int .i64 (k : Int), .int .i64 (r : Int), .int .i64 (c : Int)])
theorem keyType54 : Tryz.prog.keyType 249 = true := by kernel_rfl
theorem cells54 : Tryz.prog.cellsOf 249 = 3 := by kernel_rfl
theorem cells3 : Tryz.prog.cellsOf 3 = 1 := by kernel_rfl
theorem size_types : Tryz.prog.types.size = 300 := by kernel_rfl
theorem wf_small {n : Nat} (h : n <= 1000) : (Lit.int .i64 (n : Int)).wf = true := WalkArith.wf_i64 (by omega)
theorem lits3 (d n : Nat) (h : n <= 1000) : Tryz.prog.keyLits (d + 1) 3 [.int .i64 (n : Int)] = some [.int .i64 (n : Int)] := by
  unfold Program.keyLits
  rw [Tryz.underlying3]
  simp [wf_small h]
theorem keyOf_key (k r c : Nat) (hk : k <= 1000) (hr : r <= 1000) (hc : c <= 1000) : keyOf Tryz.prog 249 (key k r c) = some (keyLit k r c) := by
  have hf : (key k r c).formed Tryz.prog 249 = true := by
    obtain ⟨fs, hu⟩ : ∃ fs, Tryz.prog.underlying 249 = some (.struct fs) := ⟨_, Tryz.underlying249⟩
    simp [Value.formed, key, hu, cells54]
  obtain ⟨d, hd⟩ : ∃ d, Tryz.prog.types.size + 1 = d + 1 + 1 := ⟨299, by rw [size_types]⟩
  have e1 := lits3 d k hk
  have e2 := lits3 d r hr
  have e3 := lits3 d c hc
  have hl : Tryz.prog.keyLits (d + 1 + 1) 249 [.int .i64 (k : Int), .int .i64 (r : Int), .int .i64 (c : Int)] = some [.int .i64 (k : Int), .int .i64 (r : Int), .int .i64 (c : Int)] := by
    unfold Program.keyLits
    rw [Tryz.underlying249]
    simp [cells54, cells3, e1, e2, e3]
  unfold keyOf
  rw [Tryz.underlying249]
  simp only [keyType54, hf, Bool.and_self, if_true, hd]
  show Option.map _ (Tryz.prog.keyLits (d + 1 + 1) 249 [.int .i64 (k : Int), .int .i64 (r : Int), .int .i64 (c : Int)]) = _
  rw [hl]
  rfl
theorem keyLit_inj {k r c c' : Nat} (hk : k <= 1000) (hr : r <= 1000) (hc : c <= 1000) (hc' : c' <= 1000) (h : keyLit k r c = keyLit k r c') : c = c' := by
  have h1 := keyOf_key k r c hk hr hc
  have h2 := keyOf_key k r c' hk hr hc'
  rw [<- h] at h2
  have := keyed.inj h1 h2
  simp [key] at this
  omega
theorem keyLit_is (k r c : Nat) (hk : k <= 1000) (hr : r <= 1000) (hc : c <= 1000) : WideAt.IsKeyLit (keyLit k r c) := keyed.key (keyOf_key k r c hk hr hc)
def told (g n u : Nat) : DataW Unit := .agg [.lit (.int .i64 (g : Int)), .lit (.int .i64 (n : Int)), .lit (.int .i64 (u : Int))]
def elem : Value -> Option (DataW Unit × List MemPlace)
  | .slice (some ⟨g, 0, none⟩) n u => some (told g n u, [])
  | .slice none 0 0 => some (.agg [], [])
  | _ => none
theorem elem_mk (g n u : Nat) : elem (.slice (some ⟨g, 0, none⟩) n u) = some (told g n u, []) := rfl
theorem elem_nil : elem (.slice none 0 0) = some (.agg [], []) := rfl
theorem elem_inv {v : Value} {g n u : Nat} {ps : List MemPlace} (h : elem v = some (told g n u, ps)) : v = .slice (some ⟨g, 0, none⟩) n u := by
  unfold elem at h
  split at h
  · rename_i g' n' u'
    simp only [told, Option.some.injEq, Prod.mk.injEq, DataW.agg.injEq, List.cons.injEq, DataW.lit.injEq, Lit.int.injEq, true_and, and_true, Int.natCast_inj] at h
    obtain ⟨⟨rfl, rfl, rfl⟩, _⟩ := h
    rfl
  · simp [told] at h
  · cases h
theorem zero23 (w : World) : (zeroValue 74).run Tryz.prog w = .ok (.slice none 0 0) w := by kernel_rfl
end Go.Proofs.YtngcdlodcdgcaaaGreat.Cod
namespace Go.Proofs.YtngcdlodcdgcaaaGreat.Cod
open Go.RowKit
open Go.Maps (Keyed)
def Kept (w : World) (b B k r n c0 c1 : Nat) : Prop :=
  ∃ D, w.ownsMap Tryz.prog 249 elem b n D /\ (∀ c, c < k + r -> Maps.has D (keyLit k r c) = true -> ∃ g u, D.atKey (keyLit k r c) (.agg []) = told g k u /\ B <= g /\ Own w g k u (gen k c)) /\ ∀ c, c0 <= c -> c < c1 -> Maps.has D (keyLit k r c) = true
theorem Kept.lt {w : World} {b B k r n c0 c1 : Nat} (h : Kept w b B k r n c0 c1) : b < w.heap.size := by obtain ⟨D, h1, _⟩ := h; exact h1.lt
theorem Kept.ne {w : World} {b B k r n c0 c1 g e m : Nat} {f : Nat -> Value} (h : Kept w b B k r n c0 c1) (hr : w.rowIs g e m f) : g ≠ b := by
  rintro rfl
  obtain ⟨D, ⟨es, clock, hb, _⟩, _⟩ := h
  obtain ⟨c, hc, _⟩ := hr
  rw [hb] at hc
  cases hc
theorem ownsMap_block {w w' : World} {b n : Nat} {D : DataW Unit} (h : w.ownsMap Tryz.prog 249 elem b n D) (hb : w'.heap[b]? = w.heap[b]?) : w'.ownsMap Tryz.prog 249 elem b n D := by
  obtain ⟨es, clock, h1, h2⟩ := h
  exact ⟨es, clock, hb.trans h1, h2⟩
theorem Kept.blocks {w w' : World} {b B k r n c0 c1 : Nat} (h : Kept w b B k r n c0 c1) (hb : w'.heap[b]? = w.heap[b]?) (hg : ∀ g m f, w.rowIs g 5 m f -> w'.heap[g]? = w.heap[g]?) : Kept w' b B k r n c0 c1 := by
  obtain ⟨D, h1, h2, h3⟩ := h
  refine ⟨D, ownsMap_block h1 hb, fun c hc hh => ?_, h3⟩
  obtain ⟨g, u, e1, e2, e3⟩ := h2 c hc hh
  refine ⟨g, u, e1, e2, e3.of_block ?_⟩
  obtain ⟨_, _, f, hr, _⟩ := e3
  exact hg g _ _ hr
theorem Kept.below {w w' : World} {b B k r n c0 c1 : Nat} (h : Kept w b B k r n c0 c1) (hb : Below w.heap.size w w') : Kept w' b B k r n c0 c1 :=
  h.blocks (hb.block b h.lt) fun g _ _ hr => hb.block g hr.lt
theorem Kept.any {w : World} {b B k r n c0 c1 : Nat} (h : Kept w b B k r n c0 c1) (c : Nat) : Kept w b B k r n c c := by
  obtain ⟨D, h1, h2, _⟩ := h
  exact ⟨D, h1, h2, fun x h3 h4 => absurd h4 (by omega)⟩
theorem Kept.mono {w : World} {b B k r n c0 c1 n' : Nat} (h : Kept w b B k r n c0 c1) (hn : n <= n') : Kept w b B k r n' c0 c1 := by
  obtain ⟨D, h1, h2, h3⟩ := h
  exact ⟨D, h1.mono hn, h2, h3⟩
theorem Kept.put {w w' : World} {b B k r n c0 c1 g u : Nat} {D : DataW Unit} (hown : w.ownsMap Tryz.prog 249 elem b n D) (hgood : ∀ c, c < k + r -> Maps.has D (keyLit k r c) = true -> ∃ g u, D.atKey (keyLit k r c) (.agg []) = told g k u /\ B <= g /\ Own w g k u (gen k c)) (hall : ∀ c, c0 <= c -> c < c1 -> Maps.has D (keyLit k r c) = true)
    (hown' : w'.ownsMap Tryz.prog 249 elem b (n + 1) (D.put (keyLit k r c1) (told g k u))) (hgr : w.grownBy w' (some b)) (hk : k <= 500) (hr : r <= 500) (hc : c1 < k + r) (hB : B <= g) (ho : Own w g k u (gen k c1)) : Kept w' b B k r (n + 1) c0 (c1 + 1) := by
  have old : ∀ g u f, Own w g k u f -> Own w' g k u f := fun g u f h => h.of_block (hgr.block g h.lt fun e => by
    obtain ⟨_, _, f, hrow, _⟩ := h
    exact (Kept.ne (k := k) (r := r) (B := 0) (c0 := 0) (c1 := 0) ⟨D, hown, fun c hc hh => by
      obtain ⟨g, u, e1, e2, e3⟩ := hgood c hc hh
      exact ⟨g, u, e1, Nat.zero_le _, e3⟩, fun c _ h => absurd h (Nat.not_lt_zero c)⟩ hrow) (Option.some.inj e))
  have key1 := keyLit_is k r c1 (by omega) (by omega) (by omega)
  refine ⟨_, hown', fun c hcl hh => ?_, fun c h1 h2 => ?_⟩
  · by_cases e : c = c1
    · subst e
      exact ⟨g, u, Maps.atKey_put_same hown.isMap key1 _ _, hB, old g u _ ho⟩
    · have hne : keyLit k r c ≠ keyLit k r c1 := fun e' => e (keyLit_inj (by omega) (by omega) (by omega) (by omega) e')
      rw [Maps.has_put_other hne] at hh
      obtain ⟨g', u', e1, e2, e3⟩ := hgood c hcl hh
      exact ⟨g', u', by rw [Maps.atKey_put_other hne]; exact e1, e2, old _ _ _ e3⟩
  · by_cases e : c = c1
    · subst e; exact Maps.has_put_same hown.isMap key1 _
    · have hne : keyLit k r c ≠ keyLit k r c1 := fun e' => e (keyLit_inj (by omega) (by omega) (by omega) (by omega) e')
      rw [Maps.has_put_other hne]
      exact hall c h1 (by omega)
theorem Keeps.map {w w' : World} {b : Nat} (hg : w.grownBy w' (some b)) : Keeps b (b + 1) w w' := ⟨hg.os, hg.tape, hg.output, hg.size, fun k hk hb => hg.block k hk fun e => by have := Option.some.inj e; omega⟩
theorem Keeps.fresh {B T g : Nat} {a w : World} (h : Keeps B T a w) (hg : a.heap.size <= g) (i : Nat) (u : Value) : Keeps B T a (w.setCell ⟨g, i, none⟩ u) :=
  ⟨h.os, h.tape, h.output, by simp only [World.setCell, Array.size_modify]; exact h.size, fun k hk hb => by rw [Below.heap_setCell _ _ _ _ (by simp; omega)]; exact h.block k hk hb⟩
theorem box_put {w : World} {g : Nat} {x y z v : Value} (h : w.heap[g]? = some (.cells #[x, y, z] 249 (0, 0))) : (w.setCell ⟨g, 2, none⟩ v).heap[g]? = some (.cells #[x, y, v] 249 (0, 0)) := by
  unfold World.setCell
  simp [Array.getElem?_modify, h]
set_option maxHeartbeats 1000000 in
set_option maxRecDepth 100000 in
theorem keep_any (w : World) (b B k r n c0 l cl m T : Nat) (G U : Nat -> Nat) (H : M) (hk : k <= 12) (hr : r <= 4) (hm : c0 + m <= k + r) (hn : n <= 1000000) (hkept : Kept w b B k r n c0 c0) (hmat : Mat w B T l cl m k G U H) (hH : ∀ i j, i < m -> j < k -> H i j = gen k (c0 + i) j) :
    Calls Tryz.prog 172 #[.map (some b), key k r c0, .slice (some ⟨l, 0, none⟩) m cl] w fun e w' => e = .returned (.tuple #[]) /\ Kept w' b B k r (n + m) c0 (c0 + m) /\ Keeps b (b + 1) w w' := by
  have HK : Hid (Kept w b B k r n c0 c0) := hkept
  have HM : Hid (Mat w B T l cl m k G U H) := hmat
  have HH : Hid (∀ i j, i < m -> j < k -> H i j = gen k (c0 + i) j) := hH
  have hlb : l ≠ b := by obtain ⟨f, hrow, _⟩ := hmat.lst; exact hkept.ne hrow
  have hlw : l < w.heap.size := hmat.lt_l
  have hbw : b < w.heap.size := hkept.lt
  clear hkept hmat hH
  unfold key
  go_enter Tryz.func172, Tryz.ntmps172
  go_wp2
  go_loopw [10] (fun i wr => ∃ j : Nat, j <= m /\ i = .int .i64 j /\ Hid (Kept wr b B k r (n + j) c0 (c0 + j)) /\ Hid (wr.heap[w.heap.size]? = some (.cells #[.int .i64 (k : Int), .int .i64 (r : Int), .int .i64 ((c0 + j : Nat) : Int)] 249 (0, 0))) /\ Hid (Keeps b (b + 1) w wr)) (fun i _ => m - (intOf i).toNat)
  case atStart => exact ⟨0, Nat.zero_le _, rfl, HK.out.below ((Below.refl _ _).alloc (Nat.le_refl _) _), heap_alloc_new w _, (Keeps.refl _ _ _).alloc _⟩
  case round =>
    obtain ⟨j, hj, rfl, hkept, hbox, hkeep⟩ := hrel
    by_cases hlt : j < m
    · obtain ⟨D, hown, hgood, hall⟩ := hkept.out
      have HGOOD : Hid (∀ c, c < k + r -> Maps.has D (keyLit k r c) = true -> ∃ g u, D.atKey (keyLit k r c) (.agg []) = told g k u /\ B <= g /\ Own wr g k u (gen k c)) := hgood
      have HALL : Hid (∀ c, c0 <= c -> c < c0 + j -> Maps.has D (keyLit k r c) = true) := hall
      have HOWN : Hid (wr.ownsMap Tryz.prog 249 elem b (n + j) D) := hown
      have HB : Hid (wr.heap[w.heap.size]? = some (.cells #[.int .i64 (k : Int), .int .i64 (r : Int), .int .i64 ((c0 + j : Nat) : Int)] 249 (0, 0))) := hbox.out
      obtain ⟨c, hc⟩ : ∃ c, c = c0 + j := ⟨_, rfl⟩
      have d0 : wr.cell? ⟨w.heap.size, 0, none⟩ = some (.int .i64 (k : Int)) := by simp [World.cell?, hbox.out]
      have d1 : wr.cell? ⟨w.heap.size, 1, none⟩ = some (.int .i64 (r : Int)) := by simp [World.cell?, hbox.out]
      have d2 : wr.cell? ⟨w.heap.size, 2, none⟩ = some (.int .i64 (c : Int)) := by simp [World.cell?, hbox.out, hc]
      have c1 : wr.cell? ⟨l, j, none⟩ = some (.slice (some ⟨G j, 0, none⟩) k (U j)) := hkeep.out.cell (HM.out.cell_l hlt) (by simp only; omega)
      have hkey := keyOf_key k r c (by omega) (by omega) (by omega)
      unfold key at hkey
      have HC : Hid (c = c0 + j) := hc
      have hcb : (c : Int) <= 100 := by omega
      clear hown hgood hall hbox hc
      have i1 : (0 : Int) <= (j : Int) := by omega
      have i2 : (j : Int) < (m : Int) := by omega
      go_wp2_with (at_mapUpdate; refine wpList_mapUpdate_own _ rfl _ _ _ 228 rfl 249 74 keyed Tryz.underlying228 elem b (n + j) D rfl HOWN.out (by unfold maxLen; omega) _ _ (keyLit k r c) rfl rfl hkey (told (G j) k (U j)) [] (elem_mk _ _ _) ?_; intro w1 hown1 hgrow1
                   have hg1 := hgrow1.block w.heap.size (World.block_lt_of_cell? wr _ d0) (by simp; omega)
                   have d3 : w1.cell? ⟨w.heap.size, 2, none⟩ = some (.int .i64 (c : Int)) := (World.cell?_of_block hg1).trans d2
                   have z3 : w1.frozen? ⟨w.heap.size, 2, none⟩ = false := by simp [World.frozen?, hg1, HB.out]
                   have HB1 : Hid (w1.heap[w.heap.size]? = some (.cells #[.int .i64 (k : Int), .int .i64 (r : Int), .int .i64 ((c0 + j : Nat) : Int)] 249 (0, 0))) := hg1.trans HB.out
                   have HG1 : Hid (wr.grownBy w1 (some b)) := hgrow1
                   have HO1 : Hid (w1.ownsMap Tryz.prog 249 elem b (n + j + 1) (D.put (keyLit k r c) (told (G j) k (U j)))) := hown1
                   clear hgrow1 hown1 hg1)
      have HW : Hid (Kept (w1.setCell ⟨w.heap.size, 2, none⟩ (.int .i64 ((c : Int) + 1))) b B k r (n + (j + 1)) c0 (c0 + (j + 1))) := by
        have hcc := HC.out
        have ho : Own wr (G j) k (U j) (gen k c) := ((HM.out.row j hlt).keeps hkeep.out (by have := HM.out.row j hlt; obtain ⟨_, _, f, hrow, _⟩ := this; have := HK.out.ne hrow; omega)).congr fun i hi => by rw [HH.out j i hlt hi, hcc]
        have hp : Kept w1 b B k r (n + j + 1) c0 (c + 1) := Kept.put HOWN.out HGOOD.out (by rw [hcc]; exact HALL.out) HO1.out HG1.out (by omega) (by omega) (by omega) (HM.out.los j hlt) ho
        rw [show c0 + (j + 1) = c + 1 by omega]
        refine hp.blocks (Below.heap_setCell _ _ _ _ (by simp; omega)) fun g m' f hrow => Below.heap_setCell _ _ _ _ ?_
        rintro rfl
        obtain ⟨cs, hcs, _⟩ := hrow
        rw [HB1.out] at hcs
        cases hcs
      have HX : Hid ((w1.setCell ⟨w.heap.size, 2, none⟩ (.int .i64 ((c : Int) + 1))).heap[w.heap.size]? = some (.cells #[.int .i64 (k : Int), .int .i64 (r : Int), .int .i64 ((c0 + (j + 1) : Nat) : Int)] 249 (0, 0))) := by
        rw [show ((c0 + (j + 1) : Nat) : Int) = (c : Int) + 1 by have := HC.out; omega]
        exact box_put HB1.out
      have HY : Hid (Keeps b (b + 1) w (w1.setCell ⟨w.heap.size, 2, none⟩ (.int .i64 ((c : Int) + 1)))) := (hkeep.out.trans (Keeps.map HG1.out)).fresh (Nat.le_refl _) 2 _
      go_roundw
      case rel => exact ⟨j + 1, by omega, by go_num, HW.out, HX.out, HY.out⟩
      case measure => simp [intOf]; omega
    · obtain rfl : j = m := by omega
      go_wp2
      go_end0
      exact ⟨rfl, hkept.out, hkeep.out⟩
end Go.Proofs.YtngcdlodcdgcaaaGreat.Cod
namespace Go.Proofs.YtngcdlodcdgcaaaGreat.Cod
open Go.RowKit
open Go.Maps (Keyed)
theorem elem_inv_nil {v : Value} {ps : List MemPlace} (h : elem v = some (.agg [], ps)) : v = .slice none 0 0 := by
  unfold elem at h
  split at h
  · simp [told] at h
  · rfl
  · cases h
theorem wpList_look_yes {w : World} {ops : Array Oper} {rest : List Oper} {o : Oper} {a : Act} {Q : Exit -> Act -> World -> Prop} (hg : o.guard = none) (m x : Operand) (hop : o.op = Op.lookup 228 m x true) (b n : Nat) (D : DataW Unit)
    (hm : a.eval m = .map (some b)) (hown : w.ownsMap Tryz.prog 249 elem b n D) (key : Value) (kl : Lit) (hx : a.eval x = key) (hkey : keyOf Tryz.prog 249 key = some kl) (g q u : Nat) (hh : Maps.has D kl = true) (hat : D.atKey kl (.agg []) = told g q u)
    (hK : wpList Tryz.prog ops Q rest (a.put o.dst (.tuple #[.slice (some ⟨g, 0, none⟩) q u, .bool true])) w) : wpList Tryz.prog ops Q (o :: rest) a w := by
  refine wpList_lookup_own_ok w hg m x 228 hop 249 74 keyed Tryz.underlying228 elem (zero23 w) (.agg []) [] elem_nil b n D hm hown key kl hx hkey fun v ps hv => ?_
  rw [hat] at hv
  obtain rfl := elem_inv hv
  rw [hh]
  exact hK
theorem wpList_look_no {w : World} {ops : Array Oper} {rest : List Oper} {o : Oper} {a : Act} {Q : Exit -> Act -> World -> Prop} (hg : o.guard = none) (m x : Operand) (hop : o.op = Op.lookup 228 m x true) (b n : Nat) (D : DataW Unit)
    (hm : a.eval m = .map (some b)) (hown : w.ownsMap Tryz.prog 249 elem b n D) (key : Value) (kl : Lit) (hx : a.eval x = key) (hkey : keyOf Tryz.prog 249 key = some kl) (hh : Maps.has D kl = false)
    (hK : wpList Tryz.prog ops Q rest (a.put o.dst (.tuple #[.slice none 0 0, .bool false])) w) : wpList Tryz.prog ops Q (o :: rest) a w := by
  refine wpList_lookup_own_ok w hg m x 228 hop 249 74 keyed Tryz.underlying228 elem (zero23 w) (.agg []) [] elem_nil b n D hm hown key kl hx hkey fun v ps hv => ?_
  rw [Maps.atKey_of_not_has hh] at hv
  obtain rfl := elem_inv_nil hv
  rw [hh]
  exact hK
theorem wpList_look_at {w : World} {ops : Array Oper} {rest : List Oper} {o : Oper} {a : Act} {Q : Exit -> Act -> World -> Prop} (hg : o.guard = none) (m x : Operand) (hop : o.op = Op.lookup 228 m x false) (b n : Nat) (D : DataW Unit)
    (hm : a.eval m = .map (some b)) (hown : w.ownsMap Tryz.prog 249 elem b n D) (key : Value) (kl : Lit) (hx : a.eval x = key) (hkey : keyOf Tryz.prog 249 key = some kl) (g q u : Nat) (hat : D.atKey kl (.agg []) = told g q u)
    (hK : wpList Tryz.prog ops Q rest (a.put o.dst (.slice (some ⟨g, 0, none⟩) q u)) w) : wpList Tryz.prog ops Q (o :: rest) a w := by
  refine wpList_plain hg fun K' hK' => ?_
  obtain ⟨v, ps, hrun, hv⟩ := hown.lookup keyed Tryz.underlying228 (zero23 w) elem_nil hkey
  rw [hat] at hv
  obtain rfl := elem_inv hv
  unfold Oper.wp
  simp [execOp, hop, hm, hx, hrun, Result.andThen]
  exact hK' _ _ hK
theorem gen_one {k i j : Nat} (hi : i < k) : gen k i j = one i j := if_pos hi
theorem gen_cau (k i j : Nat) : gen k (k + i) j = cau k i j := by
  unfold gen
  rw [if_neg (by omega), Nat.add_sub_cancel_left]
def RowOf (w : World) (b B k r n c : Nat) (e : Ending) (w' : World) : Prop :=
  ∃ g u, e = .returned (.slice (some ⟨g, 0, none⟩) k u) /\ B <= g /\ Own w' g k u (gen k c) /\ Kept w' b B k r (n + 12) 0 0 /\ Keeps b (b + 1) w w'
set_option maxHeartbeats 1000000 in
set_option maxRecDepth 100000 in
theorem row_any (w : World) (b B k r n c : Nat) (hk1 : 1 <= k) (hk : k <= 12) (hr : r <= 4) (hc : c < k + r) (hn : n <= 10000) (hB : B <= w.heap.size) (hkept : Kept w b B k r n 0 0) :
    Calls Tryz.prog 163 #[.map (some b), key k r c] w (RowOf w b B k r n c) := by
  obtain ⟨w1, hw1⟩ : ∃ w1, w1 = w.alloc (.cells #[.int .i64 (k : Int), .int .i64 (r : Int), .int .i64 (c : Int)] 249) := ⟨_, rfl⟩
  have b1 : Below w.heap.size w w1 := by rw [hw1]; exact (Below.refl _ _).alloc (Nat.le_refl _) _
  have d0 : w1.cell? ⟨w.heap.size, 0, none⟩ = some (.int .i64 (k : Int)) := by rw [hw1, cell_of_row _ _ _ _ _ _ (heap_alloc_new w _)]; rfl
  have d1 : w1.cell? ⟨w.heap.size, 1, none⟩ = some (.int .i64 (r : Int)) := by rw [hw1, cell_of_row _ _ _ _ _ _ (heap_alloc_new w _)]; rfl
  have d2 : w1.cell? ⟨w.heap.size, 2, none⟩ = some (.int .i64 (c : Int)) := by rw [hw1, cell_of_row _ _ _ _ _ _ (heap_alloc_new w _)]; rfl
  have hbw := hkept.lt
  have HK1 : Hid (Kept w1 b B k r n 0 0) := hkept.below b1
  have hkey := keyOf_key k r c (by omega) (by omega) (by omega)
  obtain ⟨D, hown, hgood, _⟩ := HK1.out
  have HOWN : Hid (w1.ownsMap Tryz.prog 249 elem b n D) := hown
  clear hown hkept
  unfold key at hkey ⊢
  cases hh : Maps.has D (keyLit k r c)
  · have HHH : Hid (Maps.has D (keyLit k r c) = false) := hh
    clear hh hgood
    by_cases hck : c < k
    · go_enter Tryz.func163, Tryz.ntmps163
      go_wp2_with (at_lookup; refine wpList_look_no rfl _ _ rfl b n D rfl (by rw [<- hw1]; exact HOWN.out) _ _ rfl hkey HHH.out ?_)
      rw [<- hw1]
      clear hw1
      refine (one_mat w1 k hk1 (by omega)).mono ?_
      rintro e w2 ⟨l, G, U, rfl, hm, b2⟩
      have f0 := held d0 b2
      have f1 := held d1 b2
      have f2 := held d2 b2
      have HKC : Hid (Calls Tryz.prog 172 #[.map (some b), .agg #[.int .i64 (k : Int), .int .i64 (r : Int), .int .i64 0], .slice (some ⟨l, 0, none⟩) k k] w2 fun e w' => e = .returned (.tuple #[]) /\ Kept w' b B k r (n + k) 0 (0 + k) /\ Keeps b (b + 1) w2 w') :=
        keep_any w2 b B k r n 0 l k k w2.heap.size G U one hk hr (by omega) (by omega) (HK1.out.below b2) (hm.lower (Nat.le_trans hB b1.size)) (fun i j hi _ => by rw [Nat.zero_add]; exact (gen_one hi).symm)
      have b12 := below_step b1 b2 b1.size
      have hbs : w.heap.size < w1.heap.size := World.block_lt_of_cell? w1 _ d0
      clear hm d0 d1 d2 HOWN HHH b2
      go_wp2_with fail
      refine HKC.out.mono ?_
      rintro e w3 ⟨rfl, hk3, hk4⟩
      obtain ⟨D3, hown, hgood, hall⟩ := hk3
      have hh := hall c (Nat.zero_le _) (by omega)
      obtain ⟨g, u, e1, e2, e3⟩ := hgood c hc hh
      have HAT : Hid (D3.atKey (keyLit k r c) (.agg []) = told g k u) := e1
      have HOWN : Hid (w3.ownsMap Tryz.prog 249 elem b (n + k) D3) := hown
      have HK3 : Hid (Kept w3 b B k r (n + 12) 0 0) := Kept.mono (n := n + k) ⟨D3, hown, hgood, fun x h3 h4 => absurd h4 (by omega)⟩ (by omega)
      have g0 := hk4.cell f0 (.inr (by show b + 1 <= w.heap.size; omega))
      have g1 := hk4.cell f1 (.inr (by show b + 1 <= w.heap.size; omega))
      have g2 := hk4.cell f2 (.inr (by show b + 1 <= w.heap.size; omega))
      clear hgood hall hh e1 hown f0 f1 f2 HKC
      go_wp2_with (at_lookup; refine wpList_look_at rfl _ _ rfl b (n + k) D3 rfl HOWN.out _ _ rfl hkey g k u HAT.out ?_)
      go_ret
      exact ⟨g, u, rfl, e2, e3, HK3.out, (Keeps.of_below b12).trans hk4⟩
    · have hr1 : 1 <= r := by omega
      have CY := cauchy_any w1 (k : Int) (r : Int)
      rw [show okN (k : Int) 12 = true from decide_eq_true (by omega), show okN (r : Int) 4 = true from decide_eq_true (by omega), Int.toNat_natCast, Int.toNat_natCast] at CY
      go_enter Tryz.func163, Tryz.ntmps163
      go_wp2_with (at_lookup; refine wpList_look_no rfl _ _ rfl b n D rfl (by rw [<- hw1]; exact HOWN.out) _ _ rfl hkey HHH.out ?_)
      rw [<- hw1]
      clear hw1
      refine CY.mono ?_
      intro e w2 hh
      obtain ⟨l, cl, G, U, rfl, hm, b2⟩ := mat_of hh (by omega)
      have f0 := held d0 b2
      have f1 := held d1 b2
      have f2 := held d2 b2
      have HKC : Hid (Calls Tryz.prog 172 #[.map (some b), .agg #[.int .i64 (k : Int), .int .i64 (r : Int), .int .i64 (k : Int)], .slice (some ⟨l, 0, none⟩) r cl] w2 fun e w' => e = .returned (.tuple #[]) /\ Kept w' b B k r (n + r) k (k + r) /\ Keeps b (b + 1) w2 w') :=
        keep_any w2 b B k r n k l cl r w2.heap.size G U (cau k) hk hr (by omega) (by omega) ((HK1.out.below b2).any k) (hm.lower (Nat.le_trans hB b1.size)) (fun i j _ _ => (gen_cau k i j).symm)
      have b12 := below_step b1 b2 b1.size
      have hbs : w.heap.size < w1.heap.size := World.block_lt_of_cell? w1 _ d0
      clear hm d0 d1 d2 HOWN HHH b2 hh CY
      go_wp2_with fail
      refine HKC.out.mono ?_
      rintro e w3 ⟨rfl, hk3, hk4⟩
      obtain ⟨D3, hown, hgood, hall⟩ := hk3
      have hh := hall c (by omega) hc
      obtain ⟨g, u, e1, e2, e3⟩ := hgood c hc hh
      have HAT : Hid (D3.atKey (keyLit k r c) (.agg []) = told g k u) := e1
      have HOWN : Hid (w3.ownsMap Tryz.prog 249 elem b (n + r) D3) := hown
      have HK3 : Hid (Kept w3 b B k r (n + 12) 0 0) := Kept.mono (n := n + r) ⟨D3, hown, hgood, fun x h3 h4 => absurd h4 (by omega)⟩ (by omega)
      have g0 := hk4.cell f0 (.inr (by show b + 1 <= w.heap.size; omega))
      have g1 := hk4.cell f1 (.inr (by show b + 1 <= w.heap.size; omega))
      have g2 := hk4.cell f2 (.inr (by show b + 1 <= w.heap.size; omega))
      clear hgood hall hh e1 hown f0 f1 f2 HKC
      go_wp2_with (at_lookup; refine wpList_look_at rfl _ _ rfl b (n + r) D3 rfl HOWN.out _ _ rfl hkey g k u HAT.out ?_)
      go_ret
      exact ⟨g, u, rfl, e2, e3, HK3.out, (Keeps.of_below b12).trans hk4⟩
  · obtain ⟨g, u, e1, e2, e3⟩ := hgood c hc hh
    have HAT : Hid (D.atKey (keyLit k r c) (.agg []) = told g k u) := e1
    have HHH : Hid (Maps.has D (keyLit k r c) = true) := hh
    clear hh hgood e1
    go_enter Tryz.func163, Tryz.ntmps163
    go_wp2_with (at_lookup; refine wpList_look_yes rfl _ _ rfl b n D rfl (by rw [<- hw1]; exact HOWN.out) _ _ rfl hkey g k u HHH.out HAT.out ?_)
    rw [<- hw1]
    clear hw1
    go_ret
    exact ⟨g, u, rfl, e2, e3, HK1.out.mono (by omega), Keeps.of_below b1⟩
end Go.Proofs.YtngcdlodcdgcaaaGreat.Cod
namespace Go.Proofs.YtngcdlodcdgcaaaGreat.Cod
def selF (L : Nat -> Nat) : Nat -> Nat × (Nat -> Nat)
  | 0 => (0, fun _ => 0)
  | n + 1 => if L n = 0 then selF L n else ((selF L n).1 + 1, put (selF L n).1 n (selF L n).2)
def cnt (L : Nat -> Nat) (n : Nat) : Nat := (selF L n).1
def sel (L : Nat -> Nat) (n : Nat) : Nat -> Nat := (selF L n).2
theorem cnt_skip {L : Nat -> Nat} {n : Nat} (h : L n = 0) : cnt L (n + 1) = cnt L n := by unfold cnt; rw [selF, if_pos h]
theorem cnt_take {L : Nat -> Nat} {n : Nat} (h : L n ≠ 0) : cnt L (n + 1) = cnt L n + 1 := by unfold cnt; rw [selF, if_neg h]
theorem sel_skip {L : Nat -> Nat} {n : Nat} (h : L n = 0) : sel L (n + 1) = sel L n := by unfold sel; rw [selF, if_pos h]
theorem sel_take {L : Nat -> Nat} {n : Nat} (h : L n ≠ 0) : sel L (n + 1) = put (cnt L n) n (sel L n) := by unfold sel cnt; rw [selF, if_neg h]
structure Sel (L : Nat -> Nat) (n c : Nat) (R : Nat -> Nat) : Prop where
  lt : ∀ t, t < c -> R t < n
  there : ∀ t, t < c -> L (R t) ≠ 0
  rise : ∀ t t', t < t' -> t' < c -> R t < R t'
  all : ∀ i, i < n -> L i ≠ 0 -> ∃ t, t < c /\ R t = i
theorem sel_is (L : Nat -> Nat) (n : Nat) : Sel L n (cnt L n) (sel L n) := by
  induction n with
  | zero => exact ⟨fun t h => absurd h (Nat.not_lt_zero t), fun t h => absurd h (Nat.not_lt_zero t), fun t t' _ h => absurd h (Nat.not_lt_zero t'), fun i h => absurd h (Nat.not_lt_zero i)⟩
  | succ n ih =>
    by_cases h : L n = 0
    · rw [cnt_skip h, sel_skip h]
      refine ⟨fun t ht => by have := ih.lt t ht; omega, ih.there, ih.rise, fun i hi hne => ih.all i ?_ hne⟩
      have : i ≠ n := fun e => hne (e ▸ h)
      omega
    · rw [cnt_take h, sel_take h]
      refine ⟨fun t ht => ?_, fun t ht => ?_, fun t t' h1 h2 => ?_, fun i hi hne => ?_⟩
      · by_cases e : t = cnt L n
        · rw [e, put_at]; omega
        · rw [put_ne _ _ e]; have := ih.lt t (by omega); omega
      · by_cases e : t = cnt L n
        · rw [e, put_at]; exact h
        · rw [put_ne _ _ e]; exact ih.there t (by omega)
      · rw [put_ne _ _ (by omega)]
        by_cases e : t' = cnt L n
        · rw [e, put_at]; exact ih.lt t (by omega)
        · rw [put_ne _ _ e]; exact ih.rise t t' h1 (by omega)
      · by_cases e : i = n
        · exact ⟨cnt L n, by omega, by rw [put_at, e]⟩
        · obtain ⟨t, ht, hr⟩ := ih.all i (by omega) hne
          exact ⟨t, by omega, by rw [put_ne _ _ (by omega)]; exact hr⟩
theorem cnt_le (L : Nat -> Nat) (n : Nat) : cnt L n <= n := by
  induction n with
  | zero => exact Nat.le_refl _
  | succ n ih =>
    by_cases h : L n = 0
    · rw [cnt_skip h]; omega
    · rw [cnt_take h]; omega
theorem cnt_mono (L : Nat -> Nat) {i n : Nat} (h : i <= n) : cnt L i <= cnt L n := by
  induction n with
  | zero => rw [show i = 0 by omega]; exact Nat.le_refl _
  | succ n ih =>
    by_cases e : i = n + 1
    · rw [e]; exact Nat.le_refl _
    · have := ih (by omega)
      by_cases g : L n = 0
      · rw [cnt_skip g]; omega
      · rw [cnt_take g]; omega
theorem sel_prefix (L : Nat -> Nat) {i n t : Nat} (h : i <= n) (ht : t < cnt L i) : sel L n t = sel L i t := by
  induction n with
  | zero => rw [show i = 0 by omega]
  | succ n ih =>
    by_cases e : i = n + 1
    · rw [e]
    · have hm := cnt_mono L (show i <= n by omega)
      by_cases g : L n = 0
      · rw [sel_skip g]; exact ih (by omega)
      · rw [sel_take g, put_ne _ _ (by omega)]; exact ih (by omega)
theorem Sel.ge {L : Nat -> Nat} {n c : Nat} {R : Nat -> Nat} (h : Sel L n c R) (t : Nat) (ht : t < c) : t <= R t := by
  induction t with
  | zero => exact Nat.zero_le _
  | succ t ih => have := ih (by omega); have := h.rise t (t + 1) (by omega) ht; omega
theorem cnt_full {L : Nat -> Nat} {n : Nat} (h : ∀ i, i < n -> L i ≠ 0) : cnt L n = n := by
  induction n with
  | zero => rfl
  | succ n ih => rw [cnt_take (h n (by omega)), ih (fun i hi => h i (by omega))]
def len0 (L : Nat -> Nat) : Nat -> Nat
  | 0 => 0
  | n + 1 => if len0 L n = 0 then L n else len0 L n
theorem len0_sel (L : Nat -> Nat) (n : Nat) : (cnt L n = 0 /\ len0 L n = 0) \/ (0 < cnt L n /\ len0 L n = L (sel L n 0) /\ len0 L n ≠ 0) := by
  induction n with
  | zero => exact .inl ⟨rfl, rfl⟩
  | succ n ih =>
    rw [len0]
    rcases ih with ⟨h1, h2⟩ | ⟨h1, h2, h3⟩
    · rw [if_pos h2]
      by_cases h : L n = 0
      · exact .inl ⟨by rw [cnt_skip h, h1], h⟩
      · refine .inr ⟨by rw [cnt_take h]; omega, ?_, h⟩
        rw [sel_take h, h1, put_at]
    · rw [if_neg h3]
      refine .inr ⟨?_, ?_, h3⟩
      · have : cnt L n <= cnt L (n + 1) := cnt_mono L (Nat.le_succ n); omega
      · rw [sel_prefix L (Nat.le_succ n) h1]; exact h2
def okT (L : Nat -> Nat) : Nat -> Bool
  | 0 => true
  | n + 1 => okT L n && (decide (L n = 0) || (decide (L n <= 65536) && decide (L n = len0 L (n + 1))))
theorem okT_all {L : Nat -> Nat} {n : Nat} (h : okT L n = true) : ∀ i, i < n -> L i = 0 \/ (L i <= 65536 /\ L i = len0 L n) := by
  induction n with
  | zero => intro i hi; omega
  | succ n ih =>
    rw [okT, Bool.and_eq_true, Bool.or_eq_true, Bool.and_eq_true, decide_eq_true_eq, decide_eq_true_eq, decide_eq_true_eq] at h
    intro i hi
    by_cases e : i = n
    · rw [e]; exact h.2
    · rcases ih h.1 i (by omega) with g | ⟨g1, g2⟩
      · exact .inl g
      · by_cases q : len0 L n = 0
        · exact .inl (by rw [g2, q])
        · exact .inr ⟨g1, by rw [g2, len0, if_neg q]⟩
theorem okT_succ {L : Nat -> Nat} {n : Nat} (h : okT L n = true) (h2 : L n = 0 \/ (L n <= 65536 /\ L n = len0 L (n + 1))) : okT L (n + 1) = true := by
  rw [okT, h, Bool.true_and, Bool.or_eq_true, Bool.and_eq_true, decide_eq_true_eq, decide_eq_true_eq, decide_eq_true_eq]; exact h2
theorem okT_le {L : Nat -> Nat} {i n : Nat} (h : okT L n = true) (hi : i <= n) : okT L i = true := by
  induction n with
  | zero => rw [show i = 0 by omega]; rfl
  | succ n ih =>
    by_cases e : i = n + 1
    · rw [e]; exact h
    · rw [okT, Bool.and_eq_true] at h
      exact ih h.1 (by omega)
theorem okT_first {L : Nat -> Nat} {n : Nat} (h : okT L n = false) : ∃ q, q < n /\ okT L q = true /\ L q ≠ 0 /\ (65536 < L q \/ L q ≠ len0 L (q + 1)) := by
  induction n with
  | zero => cases h
  | succ n ih =>
    cases g : okT L n
    · obtain ⟨q, h1, h2⟩ := ih g
      exact ⟨q, by omega, h2⟩
    · refine ⟨n, by omega, g, fun e => ?_, ?_⟩
      · rw [okT_succ g (.inl e)] at h; cases h
      · by_cases e1 : L n <= 65536
        · exact .inr fun e2 => by rw [okT_succ g (.inr ⟨e1, e2⟩)] at h; cases h
        · exact .inl (by omega)
theorem okT_step {L : Nat -> Nat} {n i : Nat} (h : okT L n = true) (hi : i < n) (hne : L i ≠ 0) : L i <= 65536 /\ L i = len0 L (i + 1) := by
  have := okT_all (okT_le h (show i + 1 <= n by omega)) i (by omega)
  rcases this with g | g
  · exact absurd g hne
  · exact g
def rowsR (k : Nat) (R : Nat -> Nat) : M := fun t j => gen k (R t) j
def dec (k : Nat) (R : Nat -> Nat) (H : M) : M := mm k (invOf k (rowsR k R)) (fun t => H (R t))
def enc (k : Nat) (D : M) : M := mm k (gen k) D
theorem rows_inv {k n : Nat} {R : Nat -> Nat} (hk : k <= 12) (hn : n <= 16) (hlt : ∀ t, t < k -> R t < n) (hr : ∀ t t', t < t' -> t' < k -> R t < R t') : IsInv k (rowsR k R) (invOf k (rowsR k R)) := by
  have h := gen_rk k n R (by omega) hlt (fun i j h1 h2 => by have := hr i j h1 h2; omega) (by omega)
  exact invB_is (invB_of (inv_of_rk h).choose_spec)
theorem dec_back {k n : Nat} {R : Nat -> Nat} (H : M) (hk : k <= 12) (hn : n <= 16) (hlt : ∀ t, t < k -> R t < n) (hr : ∀ t t', t < t' -> t' < k -> R t < R t') (t b : Nat) (ht : t < k) : enc k (dec k R H) (R t) b = H (R t) b := by
  have hi := rows_inv hk hn hlt hr
  show mm k (rowsR k R) (mm k (invOf k (rowsR k R)) (fun t => H (R t))) t b = _
  rw [<- mm_assoc]
  show sum k (fun l => K.mul (mm k (rowsR k R) (invOf k (rowsR k R)) t l) (H (R l) b)) = _
  rw [sum_congr (g := fun l => K.mul (one t l) (H (R l) b)) (fun l hl => by rw [(hi t l ht hl).2])]
  exact one_mm (A := fun t => H (R t)) ht
theorem enc_data {k : Nat} (D : M) {i b : Nat} (hi : i < k) : enc k D i b = D i b := by
  show sum k (fun l => K.mul (gen k i l) (D l b)) = _
  rw [sum_congr (g := fun l => K.mul (one i l) (D l b)) (fun l _ => by rw [show gen k i l = one i l from if_pos hi])]
  exact one_mm hi
theorem dec_there {k n : Nat} {R : Nat -> Nat} (H : M) (hk : k <= 12) (hn : n <= 16) (hlt : ∀ t, t < k -> R t < n) (hr : ∀ t t', t < t' -> t' < k -> R t < R t') (t b : Nat) (ht : t < k) (hi : R t < k) : dec k R H (R t) b = H (R t) b := by
  rw [<- enc_data (dec k R H) hi]; exact dec_back H hk hn hlt hr t b ht
end Go.Proofs.YtngcdlodcdgcaaaGreat.Cod
namespace Go.Proofs.YtngcdlodcdgcaaaGreat.Cod
open Go.RowKit
def mayB (k r : Int) : Bool := decide (1 <= k /\ k <= 12 /\ 0 <= r /\ r <= 4)
theorem mayB_true {k r : Int} (h : mayB k r = true) : 1 <= k /\ k <= 12 /\ 0 <= r /\ r <= 4 := of_decide_eq_true h
theorem may_any (w : World) (k r : Int) : Calls Tryz.prog 146 #[.int .i64 k, .int .i64 r] w fun e w' => e = .returned (.bool (mayB k r)) /\ w' = w := by
  by_cases h1 : 1 <= k
  · by_cases h2 : k <= 12
    · by_cases h3 : 0 <= r
      · by_cases h4 : r <= 4
        · rw [show mayB k r = true from decide_eq_true ⟨h1, h2, h3, h4⟩]
          go_enter Tryz.func146, Tryz.ntmps146
          go_wp2
          go_ret
          exact ⟨by simp, rfl⟩
        · rw [show mayB k r = false from decide_eq_false fun h => h4 h.2.2.2]
          go_enter Tryz.func146, Tryz.ntmps146
          go_wp2
          go_ret
          exact ⟨by simp, rfl⟩
      · rw [show mayB k r = false from decide_eq_false fun h => h3 h.2.2.1]
        go_enter Tryz.func146, Tryz.ntmps146
        go_wp2
        go_ret
        exact ⟨by simp, rfl⟩
    · rw [show mayB k r = false from decide_eq_false fun h => h2 h.2.1]
      go_enter Tryz.func146, Tryz.ntmps146
      go_wp2
      go_ret
      exact ⟨by simp, rfl⟩
  · rw [show mayB k r = false from decide_eq_false fun h => h1 h.1]
    go_enter Tryz.func146, Tryz.ntmps146
    go_wp2
    go_ret
    exact ⟨by simp, rfl⟩
def okC (ll : Nat) (L : Nat -> Nat) (many : Int) : Bool := decide ((ll : Int) = many) && okT L ll
def There (w : World) (ll : Nat) (L : Nat -> Nat) (many : Int) (e : Ending) (w' : World) : Prop :=
  ∃ ao cap, e = .returned (.tuple #[.slice ao (lenB (okC ll L many) (cnt L ll)) cap, .int .i64 (errB (okC ll L many) 40)]) /\ RdI w' ao (lenB (okC ll L many) (cnt L ll)) (fun t => (sel L ll t : Int)) /\ lenB (okC ll L many) (cnt L ll) <= cap /\ cap <= maxLen /\ Below w.heap.size w w'
theorem rdI_nil (w : World) (ao : Option Addr) (R : Nat -> Int) : RdI w ao 0 R := fun h => absurd h (Nat.lt_irrefl 0)
theorem owns_cap {w : World} {base e n cap : Nat} {ao : Option Addr} {xs : List Value} (h : w.ownsRow base e 1 (.slice ao n cap) n xs) : n <= cap /\ cap <= maxLen := by
  rcases h.2 with ⟨h1, h2⟩ | ⟨g, cap', cur, h1, _, _, h4, h5, _⟩
  · cases h1; exact ⟨Nat.le_refl _, Nat.zero_le _⟩
  · cases h1; exact ⟨h4, h5⟩
set_option maxHeartbeats 2000000 in
set_option maxRecDepth 100000 in
theorem there_any (w : World) (lo : Option Addr) (ll cl : Nat) (A : Nat -> Option Addr) (C L : Nat -> Nat) (H : M) (many : Int) (hm : many <= 16) (hl : Lst w lo ll A C L H) :
    Calls Tryz.prog 147 #[.slice lo ll cl, .int .i64 many] w (There w ll L many) := by
  have HL : Hid (Lst w lo ll A C L H) := hl
  clear hl
  by_cases hmany : (ll : Int) = many
  · subst hmany
    obtain ⟨i0, hi, hi0, hi1, hi2⟩ := info_parts info3
    have hbq : ((ll : Int) != (ll : Int)) = false := by simp
    cases hok : okT L ll
    · obtain ⟨q, hq, hq1, hq2, hq3⟩ := okT_first hok
      have HOK : Hid (okC ll L (ll : Int) = false) := by show _ = _; unfold okC; rw [hok, Bool.and_false]
      have HQ1 : Hid (okT L q = true) := hq1
      have HQ2 : Hid (L q ≠ 0) := hq2
      have HQ3 : Hid (65536 < L q \/ L q ≠ len0 L (q + 1)) := hq3
      clear hok hq1 hq2 hq3
      go_enter Tryz.func147, Tryz.ntmps147
      go_wp2
      go_loopw [6, 15] (fun v x wr => ∃ i : Nat, i <= q /\ x = .int .i64 i /\ (∃ ao cap, v = .slice ao (cnt L i) cap) /\ Hid (wr.ownsRow w.heap.size 3 1 v (cnt L i) (intsOf (cnt L i) (sel L i))) /\ Hid (Below w.heap.size w wr)) (fun _ x _ => ll - (intOf x).toNat)
      case atStart => exact ⟨0, Nat.zero_le _, rfl, ⟨none, 0, rfl⟩, World.ownsRow_nil _ _ _ _, Below.refl _ _⟩
      case round =>
        obtain ⟨i, hiq, rfl, ⟨ao, cap, rfl⟩, hown, hbel⟩ := hrel
        have hlt : i < ll := by omega
        by_cases hiq2 : i < q
        · obtain ⟨b, off, rfl, hcl⟩ := HL.out.at_ (by omega)
          have hlb := World.block_lt_of_cell? w _ (hcl i hlt)
          simp only at hlb
          have ck := held (hcl i hlt) hbel.out
          have j1 : (0 : Int) <= (i : Int) := by omega
          have j2 : (i : Int) < (ll : Int) := by omega
          by_cases hz : L i = 0
          · rw [hz] at ck
            have HS : Hid (cnt L (i + 1) = cnt L i /\ sel L (i + 1) = sel L i) := ⟨cnt_skip hz, sel_skip hz⟩
            clear hz hcl
            go_wp2
            go_roundw
            case rel => exact ⟨i + 1, by omega, by go_num, ⟨ao, cap, by rw [HS.out.1]⟩, by rw [HS.out.1, HS.out.2]; exact hown, hbel⟩
            case measure => simp [intOf]; omega
          · obtain ⟨ct, hct⟩ : ∃ ct, ct = cnt L i := ⟨_, rfl⟩
            obtain ⟨XS, hXS⟩ : ∃ XS, XS = intsOf ct (sel L i) := ⟨_, rfl⟩
            have hws := hbel.out.size
            have hcti : ct <= i := by rw [hct]; exact cnt_le L i
            have hst := okT_step HQ1.out hiq2 hz
            have hle : L i <= 65536 := hst.1
            have hlp : 0 < L i := by omega
            obtain ⟨s, hs⟩ : ∃ s, s = sel L (i + 1) 0 := ⟨_, rfl⟩
            have hc1 : 0 < cnt L (i + 1) := by rw [cnt_take hz]; omega
            have hsl : s < ll := by rw [hs]; have := (sel_is L (i + 1)).lt 0 hc1; omega
            have hLs : L s = L i := by
              rcases len0_sel L (i + 1) with ⟨h1, _⟩ | ⟨_, h2, _⟩
              · omega
              · rw [hs, <- h2]; exact hst.2.symm
            have cs : w.cell? ⟨b, off + s, none⟩ = some (.slice (A s) (L s) (C s)) := hcl s hsl
            rw [hLs] at cs
            have HOW : Hid (∀ o, (wr.alloc o).ownsRow w.heap.size 3 1 (.slice ao ct cap) ct XS) := fun o => by rw [hXS, hct]; exact hown.out.alloc o
            have HXS : Hid (XS ++ [.int .i64 (i : Int)] = intsOf (cnt L (i + 1)) (sel L (i + 1))) := by show _ = _; rw [cnt_take hz, sel_take hz, intsOf_put, hXS, hct]
            have HCT : Hid (cnt L (i + 1) = ct + 1) := by show _ = _; rw [cnt_take hz, hct]
            have HSS : Hid (s = sel L (i + 1) 0) := hs
            have HG0 : Hid ((XS ++ [.int .i64 (i : Int)])[0]? = some (.int .i64 (s : Int))) := by show _ = _; rw [HXS.out, intsOf_get _ _ _ hc1, hs]
            rw [<- hct]
            have j3 : (0 : Int) <= (s : Int) := by omega
            have j4 : (s : Int) < (ll : Int) := by omega
            have hbn : ((L i : Int) != (L i : Int)) = false := by simp
            have hdn : decide ((65536 : Int) < (L i : Int)) = false := by simp; omega
            clear hz hcl hst hct hXS hs hLs hc1
            go_wp2_with (at_builtin; refine wpList_append_lies _ (by rfl) (.tmp 23) (.tmp 25) 33 (by rfl) w.heap.size 3 i0 (.int .i64 0) 1 8 Tryz.underlying33 hi hi0 hi1 hi2 (by rfl) (by decide) (.slice ao ct cap) ct XS (by rfl) (HOW.out _) ⟨wr.heap.size, 0, none⟩ 1 1 [.int .i64 (i : Int)] (by rfl) (by rfl) (World.news_of_block (heap_alloc_new wr _)) (by simp [Value.oneCell']) (by decide) (by unfold maxLen; omega) (by omega) (by simp; omega) (wr.heap.size + 1) (by simp) ?_; intro g5 cap5 w5 hown5 hgrow5 _ _
                         have HO5 : Hid (w5.ownsRow w.heap.size 3 1 (.slice (some ⟨g5, 0, none⟩) (ct + 1) cap5) (ct + 1) (XS ++ [.int .i64 (i : Int)])) := hown5
                         have b5 : Below w.heap.size w w5 := (hbel.out.alloc hws _).grown hgrow5 (by simp; omega) (fun q hq => ((HOW.out (.cells #[] 3)).lt q hq).1)
                         have e1 : w5.cell? ⟨g5, 0, none⟩ = some (.int .i64 (s : Int)) := (by have := HO5.out.cells (g := g5) rfl 0 _ HG0.out; rw [Addr.add_lit] at this; exact this)
                         have e2 : w5.cell? ⟨b, off + s, none⟩ = some (.slice (A s) (L i) (C s)) := held cs b5
                         have B5 : Hid (Below w.heap.size w w5) := b5
                         clear hown5 hgrow5 b5)
            go_roundw
            case rel => exact ⟨i + 1, by omega, by go_num, ⟨_, _, by rw [HCT.out]⟩, by rw [<- HXS.out, HCT.out]; exact HO5.out, B5.out⟩
            case measure => simp [intOf]; omega
        · obtain rfl : i = q := by omega
          obtain ⟨b, off, rfl, hcl⟩ := HL.out.at_ (by omega)
          have hlb := World.block_lt_of_cell? w _ (hcl i hlt)
          simp only at hlb
          have ck := held (hcl i hlt) hbel.out
          have j1 : (0 : Int) <= (i : Int) := by omega
          have j2 : (i : Int) < (ll : Int) := by omega
          have hz : L i ≠ 0 := HQ2.out
          by_cases hbig : 65536 < L i
          · have hdn : decide ((65536 : Int) < (L i : Int)) = true := by simp; omega
            obtain ⟨ct, hct⟩ : ∃ ct, ct = cnt L i := ⟨_, rfl⟩
            obtain ⟨XS, hXS⟩ : ∃ XS, XS = intsOf ct (sel L i) := ⟨_, rfl⟩
            have hws := hbel.out.size
            have hcti : ct <= i := by rw [hct]; exact cnt_le L i
            have hlp : 0 < L i := by omega
            obtain ⟨s, hs⟩ : ∃ s, s = sel L (i + 1) 0 := ⟨_, rfl⟩
            have hc1 : 0 < cnt L (i + 1) := by rw [cnt_take hz]; omega
            have hsl : s < ll := by rw [hs]; have := (sel_is L (i + 1)).lt 0 hc1; omega
            have cs : w.cell? ⟨b, off + s, none⟩ = some (.slice (A s) (L s) (C s)) := hcl s hsl
            have HOW : Hid (∀ o, (wr.alloc o).ownsRow w.heap.size 3 1 (.slice ao ct cap) ct XS) := fun o => by rw [hXS, hct]; exact hown.out.alloc o
            have HXS : Hid (XS ++ [.int .i64 (i : Int)] = intsOf (cnt L (i + 1)) (sel L (i + 1))) := by show _ = _; rw [cnt_take hz, sel_take hz, intsOf_put, hXS, hct]
            have HCT : Hid (cnt L (i + 1) = ct + 1) := by show _ = _; rw [cnt_take hz, hct]
            have HSS : Hid (s = sel L (i + 1) 0) := hs
            have HG0 : Hid ((XS ++ [.int .i64 (i : Int)])[0]? = some (.int .i64 (s : Int))) := by show _ = _; rw [HXS.out, intsOf_get _ _ _ hc1, hs]
            rw [<- hct]
            have j3 : (0 : Int) <= (s : Int) := by omega
            have j4 : (s : Int) < (ll : Int) := by omega
            clear hz hcl hct hXS hs hc1
            go_wp2_with (at_builtin; refine wpList_append_lies _ (by rfl) (.tmp 23) (.tmp 25) 33 (by rfl) w.heap.size 3 i0 (.int .i64 0) 1 8 Tryz.underlying33 hi hi0 hi1 hi2 (by rfl) (by decide) (.slice ao ct cap) ct XS (by rfl) (HOW.out _) ⟨wr.heap.size, 0, none⟩ 1 1 [.int .i64 (i : Int)] (by rfl) (by rfl) (World.news_of_block (heap_alloc_new wr _)) (by simp [Value.oneCell']) (by decide) (by unfold maxLen; omega) (by omega) (by simp; omega) (wr.heap.size + 1) (by simp) ?_; intro g5 cap5 w5 hown5 hgrow5 _ _
                         have HO5 : Hid (w5.ownsRow w.heap.size 3 1 (.slice (some ⟨g5, 0, none⟩) (ct + 1) cap5) (ct + 1) (XS ++ [.int .i64 (i : Int)])) := hown5
                         have b5 : Below w.heap.size w w5 := (hbel.out.alloc hws _).grown hgrow5 (by simp; omega) (fun q hq => ((HOW.out (.cells #[] 3)).lt q hq).1)
                         have e1 : w5.cell? ⟨g5, 0, none⟩ = some (.int .i64 (s : Int)) := (by have := HO5.out.cells (g := g5) rfl 0 _ HG0.out; rw [Addr.add_lit] at this; exact this)
                         have e2 : w5.cell? ⟨b, off + s, none⟩ = some (.slice (A s) (L s) (C s)) := held cs b5
                         have B5 : Hid (Below w.heap.size w w5) := b5
                         clear hown5 hgrow5 b5)
            go_ret2
            exact ⟨none, 0, by rw [HOK.out]; rfl, by rw [HOK.out]; exact rdI_nil _ _ _, by rw [HOK.out]; exact Nat.le_refl _, Nat.zero_le _, B5.out⟩
          · have hle : L i <= 65536 := by omega
            have hdn : decide ((65536 : Int) < (L i : Int)) = false := by simp; omega
            have hbn : ((L i : Int) != (L (sel L (i + 1) 0) : Int)) = true := by
              have h0 : L i ≠ len0 L (i + 1) := by rcases HQ3.out with g | g; exact absurd g hbig; exact g
              rcases len0_sel L (i + 1) with ⟨h1, _⟩ | ⟨_, h2, _⟩
              · have := cnt_take hz; omega
              · rw [h2] at h0
                simp; omega
            clear hbig
            obtain ⟨ct, hct⟩ : ∃ ct, ct = cnt L i := ⟨_, rfl⟩
            obtain ⟨XS, hXS⟩ : ∃ XS, XS = intsOf ct (sel L i) := ⟨_, rfl⟩
            have hws := hbel.out.size
            have hcti : ct <= i := by rw [hct]; exact cnt_le L i
            have hlp : 0 < L i := by omega
            obtain ⟨s, hs⟩ : ∃ s, s = sel L (i + 1) 0 := ⟨_, rfl⟩
            rw [<- hs] at hbn
            have hc1 : 0 < cnt L (i + 1) := by rw [cnt_take hz]; omega
            have hsl : s < ll := by rw [hs]; have := (sel_is L (i + 1)).lt 0 hc1; omega
            have cs : w.cell? ⟨b, off + s, none⟩ = some (.slice (A s) (L s) (C s)) := hcl s hsl
            have HOW : Hid (∀ o, (wr.alloc o).ownsRow w.heap.size 3 1 (.slice ao ct cap) ct XS) := fun o => by rw [hXS, hct]; exact hown.out.alloc o
            have HXS : Hid (XS ++ [.int .i64 (i : Int)] = intsOf (cnt L (i + 1)) (sel L (i + 1))) := by show _ = _; rw [cnt_take hz, sel_take hz, intsOf_put, hXS, hct]
            have HCT : Hid (cnt L (i + 1) = ct + 1) := by show _ = _; rw [cnt_take hz, hct]
            have HSS : Hid (s = sel L (i + 1) 0) := hs
            have HG0 : Hid ((XS ++ [.int .i64 (i : Int)])[0]? = some (.int .i64 (s : Int))) := by show _ = _; rw [HXS.out, intsOf_get _ _ _ hc1, hs]
            rw [<- hct]
            have j3 : (0 : Int) <= (s : Int) := by omega
            have j4 : (s : Int) < (ll : Int) := by omega
            clear hz hcl hct hXS hs hc1
            go_wp2_with (at_builtin; refine wpList_append_lies _ (by rfl) (.tmp 23) (.tmp 25) 33 (by rfl) w.heap.size 3 i0 (.int .i64 0) 1 8 Tryz.underlying33 hi hi0 hi1 hi2 (by rfl) (by decide) (.slice ao ct cap) ct XS (by rfl) (HOW.out _) ⟨wr.heap.size, 0, none⟩ 1 1 [.int .i64 (i : Int)] (by rfl) (by rfl) (World.news_of_block (heap_alloc_new wr _)) (by simp [Value.oneCell']) (by decide) (by unfold maxLen; omega) (by omega) (by simp; omega) (wr.heap.size + 1) (by simp) ?_; intro g5 cap5 w5 hown5 hgrow5 _ _
                         have HO5 : Hid (w5.ownsRow w.heap.size 3 1 (.slice (some ⟨g5, 0, none⟩) (ct + 1) cap5) (ct + 1) (XS ++ [.int .i64 (i : Int)])) := hown5
                         have b5 : Below w.heap.size w w5 := (hbel.out.alloc hws _).grown hgrow5 (by simp; omega) (fun q hq => ((HOW.out (.cells #[] 3)).lt q hq).1)
                         have e1 : w5.cell? ⟨g5, 0, none⟩ = some (.int .i64 (s : Int)) := (by have := HO5.out.cells (g := g5) rfl 0 _ HG0.out; rw [Addr.add_lit] at this; exact this)
                         have e2 : w5.cell? ⟨b, off + s, none⟩ = some (.slice (A s) (L s) (C s)) := held cs b5
                         have B5 : Hid (Below w.heap.size w w5) := b5
                         clear hown5 hgrow5 b5)
            go_ret2
            exact ⟨none, 0, by rw [HOK.out]; rfl, by rw [HOK.out]; exact rdI_nil _ _ _, by rw [HOK.out]; exact Nat.le_refl _, Nat.zero_le _, B5.out⟩
    · have HOK : Hid (okC ll L (ll : Int) = true) := by show _ = _; unfold okC; rw [hok]; simp
      have HT : Hid (okT L ll = true) := hok
      clear hok
      go_enter Tryz.func147, Tryz.ntmps147
      go_wp2
      go_loopw [6, 15] (fun v x wr => ∃ i : Nat, i <= ll /\ x = .int .i64 i /\ (∃ ao cap, v = .slice ao (cnt L i) cap) /\ Hid (wr.ownsRow w.heap.size 3 1 v (cnt L i) (intsOf (cnt L i) (sel L i))) /\ Hid (Below w.heap.size w wr)) (fun _ x _ => ll - (intOf x).toNat)
      case atStart => exact ⟨0, Nat.zero_le _, rfl, ⟨none, 0, rfl⟩, World.ownsRow_nil _ _ _ _, Below.refl _ _⟩
      case round =>
        obtain ⟨i, hil, rfl, ⟨ao, cap, rfl⟩, hown, hbel⟩ := hrel
        by_cases hlt : i < ll
        · obtain ⟨b, off, rfl, hcl⟩ := HL.out.at_ (by omega)
          have hlb := World.block_lt_of_cell? w _ (hcl i hlt)
          simp only at hlb
          have ck := held (hcl i hlt) hbel.out
          have j1 : (0 : Int) <= (i : Int) := by omega
          have j2 : (i : Int) < (ll : Int) := by omega
          by_cases hz : L i = 0
          · rw [hz] at ck
            have HS : Hid (cnt L (i + 1) = cnt L i /\ sel L (i + 1) = sel L i) := ⟨cnt_skip hz, sel_skip hz⟩
            clear hz hcl
            go_wp2
            go_roundw
            case rel => exact ⟨i + 1, by omega, by go_num, ⟨ao, cap, by rw [HS.out.1]⟩, by rw [HS.out.1, HS.out.2]; exact hown, hbel⟩
            case measure => simp [intOf]; omega
          · obtain ⟨ct, hct⟩ : ∃ ct, ct = cnt L i := ⟨_, rfl⟩
            obtain ⟨XS, hXS⟩ : ∃ XS, XS = intsOf ct (sel L i) := ⟨_, rfl⟩
            have hws := hbel.out.size
            have hcti : ct <= i := by rw [hct]; exact cnt_le L i
            have hst := okT_step HT.out hlt hz
            have hle : L i <= 65536 := hst.1
            have hlp : 0 < L i := by omega
            obtain ⟨s, hs⟩ : ∃ s, s = sel L (i + 1) 0 := ⟨_, rfl⟩
            have hc1 : 0 < cnt L (i + 1) := by rw [cnt_take hz]; omega
            have hsl : s < ll := by rw [hs]; have := (sel_is L (i + 1)).lt 0 hc1; omega
            have hLs : L s = L i := by
              rcases len0_sel L (i + 1) with ⟨h1, _⟩ | ⟨_, h2, _⟩
              · omega
              · rw [hs, <- h2]; exact hst.2.symm
            have cs : w.cell? ⟨b, off + s, none⟩ = some (.slice (A s) (L s) (C s)) := hcl s hsl
            rw [hLs] at cs
            have HOW : Hid (∀ o, (wr.alloc o).ownsRow w.heap.size 3 1 (.slice ao ct cap) ct XS) := fun o => by rw [hXS, hct]; exact hown.out.alloc o
            have HXS : Hid (XS ++ [.int .i64 (i : Int)] = intsOf (cnt L (i + 1)) (sel L (i + 1))) := by show _ = _; rw [cnt_take hz, sel_take hz, intsOf_put, hXS, hct]
            have HCT : Hid (cnt L (i + 1) = ct + 1) := by show _ = _; rw [cnt_take hz, hct]
            have HSS : Hid (s = sel L (i + 1) 0) := hs
            have HG0 : Hid ((XS ++ [.int .i64 (i : Int)])[0]? = some (.int .i64 (s : Int))) := by show _ = _; rw [HXS.out, intsOf_get _ _ _ hc1, hs]
            rw [<- hct]
            have j3 : (0 : Int) <= (s : Int) := by omega
            have j4 : (s : Int) < (ll : Int) := by omega
            have hbn : ((L i : Int) != (L i : Int)) = false := by simp
            have hdn : decide ((65536 : Int) < (L i : Int)) = false := by simp; omega
            clear hz hcl hst hct hXS hs hLs hc1
            go_wp2_with (at_builtin; refine wpList_append_lies _ (by rfl) (.tmp 23) (.tmp 25) 33 (by rfl) w.heap.size 3 i0 (.int .i64 0) 1 8 Tryz.underlying33 hi hi0 hi1 hi2 (by rfl) (by decide) (.slice ao ct cap) ct XS (by rfl) (HOW.out _) ⟨wr.heap.size, 0, none⟩ 1 1 [.int .i64 (i : Int)] (by rfl) (by rfl) (World.news_of_block (heap_alloc_new wr _)) (by simp [Value.oneCell']) (by decide) (by unfold maxLen; omega) (by omega) (by simp; omega) (wr.heap.size + 1) (by simp) ?_; intro g5 cap5 w5 hown5 hgrow5 _ _
                         have HO5 : Hid (w5.ownsRow w.heap.size 3 1 (.slice (some ⟨g5, 0, none⟩) (ct + 1) cap5) (ct + 1) (XS ++ [.int .i64 (i : Int)])) := hown5
                         have b5 : Below w.heap.size w w5 := (hbel.out.alloc hws _).grown hgrow5 (by simp; omega) (fun q hq => ((HOW.out (.cells #[] 3)).lt q hq).1)
                         have e1 : w5.cell? ⟨g5, 0, none⟩ = some (.int .i64 (s : Int)) := (by have := HO5.out.cells (g := g5) rfl 0 _ HG0.out; rw [Addr.add_lit] at this; exact this)
                         have e2 : w5.cell? ⟨b, off + s, none⟩ = some (.slice (A s) (L i) (C s)) := held cs b5
                         have B5 : Hid (Below w.heap.size w w5) := b5
                         clear hown5 hgrow5 b5)
            go_roundw
            case rel => exact ⟨i + 1, by omega, by go_num, ⟨_, _, by rw [HCT.out]⟩, by rw [<- HXS.out, HCT.out]; exact HO5.out, B5.out⟩
            case measure => simp [intOf]; omega
        · obtain rfl : i = ll := by omega
          have HR : Hid (RdI wr ao (cnt L i) (fun t => (sel L i t : Int))) := owns_rdI hown.out
          have hcp := owns_cap hown.out
          go_wp2
          go_ret2
          refine ⟨ao, cap, ?_, ?_, ?_, hcp.2, hbel.out⟩
          · rw [HOK.out]; rfl
          · rw [HOK.out]; exact HR.out
          · rw [HOK.out]; exact hcp.1
  · have hbq : ((ll : Int) != many) = true := by simp [hmany]
    have HOK : Hid (okC ll L many = false) := by show _ = _; unfold okC; rw [decide_eq_false hmany]; rfl
    clear hmany
    go_enter Tryz.func147, Tryz.ntmps147
    go_wp2
    go_ret2
    exact ⟨none, 0, by rw [HOK.out]; rfl, by rw [HOK.out]; exact rdI_nil _ _ _, by rw [HOK.out]; exact Nat.le_refl _, Nat.zero_le _, Below.refl _ _⟩
end Go.Proofs.YtngcdlodcdgcaaaGreat.Cod
namespace Go.Proofs.YtngcdlodcdgcaaaGreat.Cod
open Go.RowKit
theorem rd_ker {w : World} {ao : Option Addr} {n : Nat} {f : Nat -> K} (h : Rd w ao n f) : Ker.Rd w ao n (fun i => (f i).n) := ⟨fun i => (f i).lt, h⟩
theorem lst_ker {w : World} {lo : Option Addr} {ll : Nat} {A : Nat -> Option Addr} {C L : Nat -> Nat} {H : M} (h : Lst w lo ll A C L H) : Ker.Lst w lo ll A C L (fun i j => (H i j).n) := ⟨fun i hi => rd_ker (h.rd i hi), h.at_⟩
def lin (k : Nat) (F : Nat -> K) (H : M) (b : Nat) : K := sum k (fun j => K.mul (F j) (H j b))
theorem tot_ker (k : Nat) (F : Nat -> K) (H : M) (b : Nat) : Ker.tot (fun j => (F j).n) (fun j b => (H j b).n) k b = (lin k F H b).n := by
  induction k with
  | zero => rfl
  | succ k ih =>
    show Gf.add (Ker.tot _ _ k b) (Gf.mul (F k).n (H k b).n) = _
    rw [ih]; rfl
theorem own_ker {w : World} {g n : Nat} {f : Nat -> Nat} {h : Nat -> K} (ho : Ker.Own w g n f) (hn : n <= maxLen) (e : ∀ i, f i = (h i).n) : Own w g n n h :=
  ⟨Nat.le_refl _, hn, _, ho.2, fun i _ => by rw [e i]⟩
def New (w : World) (n : Nat) (f : Nat -> K) (e : Ending) (w' : World) : Prop :=
  ∃ g, e = .returned (.tuple #[.slice (some ⟨g, 0, none⟩) n n, .int .i64 0]) /\ w.heap.size <= g /\ Own w' g n n f /\ Below w.heap.size w w'
theorem new_of {w : World} {ok : Bool} {n : Nat} {f : Nat -> Nat} {h : Nat -> K} {e : Ending} {w' : World} (hm : Ker.Made w ok n f e w') (hok : ok = true) (h1 : 1 <= n) (h2 : n <= 65536) (he : ∀ i, f i = (h i).n) : New w n h e w' := by
  subst hok
  obtain ⟨ro, rfl, ha, hb⟩ := hm
  rcases ha with ⟨_, h0, _⟩ | ⟨g, rfl, hg, ho⟩
  · exact absurd (show n = 0 from h0) (by omega)
  · exact ⟨g, rfl, hg, own_ker ho (by show n <= maxLen; unfold maxLen; omega) he, hb⟩
theorem okL_yes {k n : Nat} {L : Nat -> Nat} (hk : k <= 16) (hn : n <= 65536) (h1 : 1 <= k) (hL : ∀ i, i < k -> L i = n) : Ker.okL k k L = true /\ Ker.n0 k L = n :=
  ⟨decide_eq_true ⟨hk, rfl, fun i hi => by rw [hL i hi, hL 0 (by omega)]; exact ⟨hn, rfl⟩⟩, by unfold Ker.n0; rw [if_neg (by omega)]; exact hL 0 (by omega)⟩
theorem dot_k (w : World) (co lo : Option Addr) (k cc cl n : Nat) (F : Nat -> K) (A : Nat -> Option Addr) (C L : Nat -> Nat) (H : M) (hk1 : 1 <= k) (hk : k <= 16) (hn1 : 1 <= n) (hn : n <= 65536) (hc : Rd w co k F) (hl : Lst w lo k A C L H) (hL : ∀ i, i < k -> L i = n) :
    Calls Tryz.prog 170 #[.slice co k cc, .slice lo k cl] w (New w n (lin k F H)) := by
  obtain ⟨h1, h2⟩ := okL_yes hk hn hk1 hL
  refine (Ker.dot_any w co lo k cc k cl _ A C L _ (by omega) (by omega) (rd_ker hc) (lst_ker hl)).mono fun e w' h => ?_
  rw [h2] at h
  exact new_of h h1 hn1 hn (tot_ker k F H)
theorem sum_any (w : World) (co lo : Option Addr) (k cc cl n : Nat) (F : Nat -> K) (A : Nat -> Option Addr) (C L : Nat -> Nat) (H : M) (hk1 : 1 <= k) (hk : k <= 16) (hn1 : 1 <= n) (hn : n <= 65536) (hc : Rd w co k F) (hl : Lst w lo k A C L H) (hL : ∀ i, i < k -> L i = n) :
    Calls Tryz.prog 162 #[.slice co k cc, .slice lo k cl] w fun e w' => ∃ g, e = .returned (.slice (some ⟨g, 0, none⟩) n n) /\ w.heap.size <= g /\ Own w' g n n (lin k F H) /\ Below w.heap.size w w' := by
  have HD := dot_k w co lo k cc cl n F A C L H hk1 hk hn1 hn hc hl hL
  clear hc hl hL
  go_enter Tryz.func162, Tryz.ntmps162
  go_wp2_with (go_at_call 170; refine HD.mono ?_; rintro e w' ⟨g, rfl, hg, ho, hb⟩)
  go_ret
  exact ⟨g, rfl, hg, ho, hb⟩
theorem info5c : (Tryz.prog.info? 5).map (fun i => (i.zero, i.size, i.bytes)) = some (some (.int .u8 0), 1, 1) := by kernel_rfl
theorem owns_empty (w : World) : (w.alloc (.cells #[] 5)).ownsRow w.heap.size 5 1 (.slice (some ⟨w.heap.size, 0, none⟩) 0 0) 0 [] :=
  ⟨rfl, .inr ⟨w.heap.size, 0, #[], rfl, Nat.le_refl _, heap_alloc_new w _, Nat.le_refl _, Nat.zero_le _, rfl, rfl⟩⟩
theorem eq_nil_no (w : World) (a : Addr) (l c : Nat) : (binOp .eql 74 (.slice (some a) l c) (.slice none 0 0)).run Tryz.prog w = .ok (.bool false) w := by
  have h : (Op.equal 74 (.slice (some a) l c) (.slice none 0 0)).run Tryz.prog w = .ok false w := run_equalIn_slice_nil w 9999 74 5 (some a) l c Tryz.underlying74
  simp only [binOp]
  simp [h]
set_option maxHeartbeats 400000 in
theorem clone_any (w : World) (ao : Option Addr) (n ca : Nat) (f : Nat -> K) (hn1 : 1 <= n) (hn : n <= 65536) (ha : Rd w ao n f) :
    Calls Tryz.prog 161 #[.slice ao n ca] w fun e w' => ∃ g u, e = .returned (.slice (some ⟨g, 0, none⟩) n u) /\ w.heap.size <= g /\ Own w' g n u f /\ Below w.heap.size w w' := by
  obtain ⟨b, off, rfl, _⟩ := ha (by omega)
  obtain ⟨i0, hi, hz0, hz1, hz2⟩ := info_parts info5c
  have HR : Hid (Rd (w.alloc (.cells #[] 5)) (some ⟨b, off, none⟩) n f) := ha.below ((Below.refl _ _).alloc (Nat.le_refl _) _)
  obtain ⟨XS, hXS⟩ : ∃ XS, XS = cellsOf n f := ⟨_, rfl⟩
  have HX : Hid (XS = cellsOf n f) := hXS
  have hxl : XS.length = n * 1 := by rw [hXS, cellsOf_length, Nat.mul_one]
  have HN : Hid (∀ j u, XS[j]? = some u -> (w.alloc (.cells #[] 5)).cell? ((⟨b, off, none⟩ : Addr).add j) = some u) := by rw [hXS]; exact rd_news HR.out
  have HO : Hid (∀ u ∈ XS, u.oneCell' = true) := by rw [hXS]; exact cellsOf_one n f
  have hnil := fun w => eq_nil_no w ⟨b, off, none⟩ n ca
  clear ha hXS
  go_enter Tryz.func161, Tryz.ntmps161
  go_wp2_with (at_builtin; refine wpList_append_own _ (by rfl) (.tmp 5) (.tmp 6) 74 (by rfl) w.heap.size 5 i0 (.int .u8 0) 1 1 Tryz.underlying74 hi hz0 hz1 hz2 (by rfl) (by decide) (.slice (some ⟨w.heap.size, 0, none⟩) 0 0) 0 [] (by rfl) (owns_empty w) ⟨b, off, none⟩ n ca XS (by rfl) hxl HN.out HO.out (by unfold maxLen; omega) (by omega) (by simp) ?_; intro v' w' hown hgrow _; obtain ⟨ao', cap', rfl⟩ := owns_form hown)
  go_ret
  rw [Nat.zero_add, List.nil_append, HX.out] at hown
  rcases hown.2 with ⟨_, h0⟩ | ⟨g, cap, cur, e, hg, _⟩
  · omega
  · cases e
    exact ⟨g, cap', rfl, hg, owns_own hown, ((Below.refl _ _).alloc (Nat.le_refl _) _).grown hgrow (by simp) (fun q hq => by cases hq; exact Nat.le_refl _)⟩
end Go.Proofs.YtngcdlodcdgcaaaGreat.Cod
namespace Go.Proofs.YtngcdlodcdgcaaaGreat.Cod
open Go.RowKit
def Stay (w w' : World) : Prop := ∀ (x : Nat) (cur : Array Value) (e : TypeId) (f : Nat × Nat), w.heap[x]? = some (.cells cur e f) -> w'.heap[x]? = some (.cells cur e f)
theorem Stay.trans {a b c : World} (h : Stay a b) (k : Stay b c) : Stay a c := fun x cur e f hx => k x cur e f (h x cur e f hx)
theorem lt_of_block {w : World} {x : Nat} {o : Obj} (h : w.heap[x]? = some o) : x < w.heap.size := (Array.getElem?_eq_some_iff.1 h).1
theorem Stay.of_below {w w' : World} (h : Below w.heap.size w w') : Stay w w' := fun x _ _ _ hx => (h.block x (lt_of_block hx)).trans hx
theorem Kept.stay {w w' : World} {b B k r n c0 c1 : Nat} (h : Kept w b B k r n c0 c1) (hb : Keeps b (b + 1) w w') : Stay w w' := fun x cur e f hx => by
  have hne : x ≠ b := by
    rintro rfl
    obtain ⟨D, ⟨es, clock, hm, _⟩, _⟩ := h
    rw [hm] at hx
    cases hx
  exact (hb.block x (lt_of_block hx) (by omega)).trans hx
theorem cell_block {w : World} {a : Addr} {v : Value} (h : w.cell? a = some v) : ∃ cur e f, w.heap[a.block]? = some (.cells cur e f) := by
  unfold World.cell? at h
  split at h
  · rename_i cur e f heq
    exact ⟨_, _, _, heq⟩
  · cases h
theorem Stay.cell {w w' : World} {a : Addr} {v : Value} (h : Stay w w') (hc : w.cell? a = some v) : w'.cell? a = some v := by
  obtain ⟨cur, e, f, hb⟩ := cell_block hc
  exact (World.cell?_of_block ((h _ _ _ _ hb).trans hb.symm)).trans hc
theorem Rd.stay {w w' : World} {ao : Option Addr} {n : Nat} {f : Nat -> K} (h : Rd w ao n f) (hs : Stay w w') : Rd w' ao n f := fun hn => by
  obtain ⟨b, off, rfl, hc⟩ := h hn
  exact ⟨b, off, rfl, fun i hi => hs.cell (hc i hi)⟩
theorem Lst.stay {w w' : World} {lo : Option Addr} {ll : Nat} {A : Nat -> Option Addr} {C L : Nat -> Nat} {H : M} (h : Lst w lo ll A C L H) (hs : Stay w w') : Lst w' lo ll A C L H :=
  ⟨fun i hi => (h.rd i hi).stay hs, fun hp => by
    obtain ⟨b, off, rfl, hc⟩ := h.at_ hp
    exact ⟨b, off, rfl, fun i hi => hs.cell (hc i hi)⟩⟩
theorem owns_stay {w w' : World} {base e n : Nat} {v : Value} {xs : List Value} (h : w.ownsRow base e 1 v n xs) (hs : Stay w w') : w'.ownsRow base e 1 v n xs := by
  refine ⟨h.1, ?_⟩
  rcases h.2 with h1 | ⟨g, cap, cur, h1, h2, h3, h4⟩
  · exact .inl h1
  · exact .inr ⟨g, cap, cur, h1, h2, hs _ _ _ _ h3, h4⟩
theorem Own.stay {w w' : World} {g n u : Nat} {f : Nat -> K} (h : Own w g n u f) (hs : Stay w w') : Own w' g n u f := by
  refine h.of_block ?_
  obtain ⟨_, _, c, ⟨cur, hb, _⟩, _⟩ := h
  exact (hs _ _ _ _ hb).trans hb.symm
theorem Copied.stay {w w' : World} {B k : Nat} {v : Value} {T : Nat -> Option Addr} {L U : Nat -> Nat} {H : M} (h : Copied w B k v T L U H) (hs : Stay w w') : Copied w' B k v T L U H :=
  ⟨owns_stay h.out hs, fun i hi => owns_stay (h.row i hi) hs, h.apart⟩
theorem Kept.grown {w w' : World} {b B k r n c0 c1 base m : Nat} {v : Value} {xs : List Value} (h : Kept w b B k r n c0 c1) (ho : w.ownsRow base 74 1 v m xs) (hg : w.grownBy w' v.ownBlock) : Kept w' b B k r n c0 c1 := by
  have key : ∀ x, v.ownBlock = some x -> ∃ cur, w.heap[x]? = some (.cells cur 74 (0, 0)) := fun x hx => by
    rcases ho.2 with ⟨rfl, _⟩ | ⟨g, cap, cur, rfl, _, h3, _⟩
    · cases hx
    · cases hx; exact ⟨cur, h3⟩
  refine h.blocks (hg.block b h.lt fun e => ?_) fun g m f hr => hg.block g hr.lt fun e => ?_
  · obtain ⟨cur, hc⟩ := key b e.symm
    obtain ⟨D, ⟨es, clock, hm, _⟩, _⟩ := h
    rw [hm] at hc
    cases hc
  · obtain ⟨cur, hc⟩ := key g e.symm
    obtain ⟨cs, h1, _⟩ := hr
    rw [h1] at hc
    cases hc
theorem Keeps.grown2 {B T : Nat} {a w w' : World} {row : Option Nat} (h : Keeps B T a w) (hg : w.grownBy w' row) (hr : ∀ k, row = some k -> a.heap.size <= k) : Keeps B T a w' :=
  ⟨hg.os.trans h.os, hg.tape.trans h.tape, hg.output.trans h.output, Nat.le_trans h.size hg.size, fun k hk hb => (hg.block k (Nat.lt_of_lt_of_le hk h.size) fun e => by have := hr k e.symm; omega).trans (h.block k hk hb)⟩
theorem Copied.push {w1 w2 : World} {B k : Nat} {v v' : Value} {T : Nat -> Option Addr} {L U : Nat -> Nat} {H : M} {ao : Option Addr} {l c : Nat} {o : Obj} {f : Nat -> K} (h : Copied w1 B k v T L U H)
    (h1 : w1.ownsRow B 5 1 (.slice ao l c) l (cellsOf l f)) (hap : ∀ i a b, i < k -> T i = some a -> ao = some b -> a.block ≠ b.block) (hg2 : (w1.alloc o).grownBy w2 v.ownBlock) (h2 : w2.ownsRow B 74 1 v' (k + 1) (rowsOf k T L U ++ [.slice ao l c])) :
    Copied w2 B (k + 1) v' (put k ao T) (put k l L) (put k c U) (put k f H) := by
  refine ⟨by rw [rowsOf_put]; exact h2, fun i hi => ?_, fun i j a b hi hj hne ea eb => ?_⟩
  · by_cases e : i = k
    · subst e
      rw [put_at, put_at, put_at, put_at]
      exact (h1.alloc o).kept hg2 (owns_apart' h1 h.out)
    · rw [put_ne _ _ e, put_ne _ _ e, put_ne _ _ e, put_ne _ _ e]
      have r := h.row i (by omega)
      exact (r.alloc o).kept hg2 (owns_apart' r h.out)
  · by_cases e : i = k
    · subst e
      rw [put_at] at ea
      rw [put_ne _ _ (Ne.symm hne)] at eb
      exact (hap j b a (by omega) eb ea).symm
    · rw [put_ne _ _ e] at ea
      by_cases e' : j = k
      · subst e'
        rw [put_at] at eb
        exact hap i a b (by omega) ea eb
      · rw [put_ne _ _ e'] at eb
        exact h.apart i j a b (by omega) (by omega) hne ea eb
theorem Copied.old {w : World} {B k : Nat} {v : Value} {T : Nat -> Option Addr} {L U : Nat -> Nat} {H : M} (h : Copied w B k v T L U H) {i : Nat} {a : Addr} (hi : i < k) (e : T i = some a) : a.block < w.heap.size := ((h.row i hi).lt a.block (by rw [e]; rfl)).2
theorem Copied.start (w : World) (B : Nat) (T : Nat -> Option Addr) (L U : Nat -> Nat) (H : M) : Copied w B 0 (.slice none 0 0) T L U H :=
  ⟨World.ownsRow_nil _ _ _ _, fun i hi => absurd hi (Nat.not_lt_zero i), fun i _ _ _ hi => absurd hi (Nat.not_lt_zero i)⟩
theorem info23c : (Tryz.prog.info? 74).map (fun i => (i.zero, i.size, i.bytes)) = some (some (.slice none 0 0), 1, 24) := by kernel_rfl
def par (k : Nat) (D : M) : M := fun i => enc k D (k + i)
set_option maxHeartbeats 2000000 in
set_option maxRecDepth 100000 in
theorem parity_any (w : World) (b B k r n m : Nat) (lo : Option Addr) (cl : Nat) (A : Nat -> Option Addr) (C L : Nat -> Nat) (D : M) (hk1 : 1 <= k) (hk : k <= 12) (hr : r <= 4) (hm1 : 1 <= m) (hm : m <= 65536) (hn : n <= 5000) (hB : B <= w.heap.size)
    (hkept : Kept w b B k r n 0 0) (hl : Lst w lo k A C L D) (hL : ∀ i, i < k -> L i = m) :
    Calls Tryz.prog 149 #[.map (some b), .int .i64 (k : Int), .int .i64 (r : Int), .slice lo k cl] w fun e w' => ∃ ao cap T U, e = .returned (.slice ao r cap) /\ Copied w' w.heap.size r (.slice ao r cap) T (fun _ => m) U (par k D) /\ Kept w' b B k r (n + 12 * r) 0 0 /\ Keeps b (b + 1) w w' := by
  obtain ⟨j0, hj, hj0, hj1, hj2⟩ := info_parts info23c
  have HK : Hid (Kept w b B k r n 0 0) := hkept
  have HL : Hid (Lst w lo k A C L D) := hl
  have HLL : Hid (∀ i, i < k -> L i = m) := hL
  clear hkept hl hL
  go_enter Tryz.func149, Tryz.ntmps149
  go_wp2
  go_loopw [9, 12] (fun v x wr => ∃ j : Nat, j <= r /\ x = .int .i64 j /\ (∃ ao cap, v = .slice ao j cap) /\ Hid (∃ T U, Copied wr w.heap.size j v T (fun _ => m) U (par k D)) /\ Hid (Kept wr b B k r (n + 12 * j) 0 0) /\ Hid (Keeps b (b + 1) w wr)) (fun _ x _ => r - (intOf x).toNat)
  case atStart => exact ⟨0, Nat.zero_le _, rfl, ⟨none, 0, rfl⟩, ⟨fun _ => none, fun _ => 0, Copied.start _ _ _ _ _ _⟩, HK.out, Keeps.refl _ _ _⟩
  case round =>
    obtain ⟨j, hjr, rfl, ⟨ao, cap, rfl⟩, hcop, hkept, hkeep⟩ := hrel
    by_cases hlt : j < r
    · obtain ⟨T, U, hcp⟩ := hcop.out
      have HCP : Hid (Copied wr w.heap.size j (.slice ao j cap) T (fun _ => m) U (par k D)) := hcp
      have hws := hkeep.out.size
      have HR := row_any wr b B k r (n + 12 * j) (k + j) hk1 hk hr (by omega) (by omega) (by omega) hkept.out
      unfold key at HR
      rw [Int.natCast_add] at HR
      have HRR : Hid (Calls Tryz.prog 163 #[.map (some b), .agg #[.int .i64 (k : Int), .int .i64 (r : Int), .int .i64 ((k : Int) + (j : Int))]] wr (RowOf wr b B k r (n + 12 * j) (k + j))) := HR
      obtain ⟨XS, hXS⟩ : ∃ X, X = rowsOf j T (fun _ => m) U := ⟨_, rfl⟩
      have HXS : Hid (rowsOf j T (fun _ => m) U = XS) := hXS.symm
      have HST : Hid (Stay w wr) := HK.out.stay hkeep.out
      clear hcop hcp hXS HR
      go_wp2_with (first
        | (go_at_call 163; refine HRR.out.mono ?_; rintro e w1 ⟨g, u, rfl, hg, ho, hk1', hke1⟩
           have S1 : Hid (Stay wr w1) := hkept.out.stay hke1
           have HS := sum_any w1 (some ⟨g, 0, none⟩) lo k u cl m (gen k (k + j)) A C L D hk1 (by omega) hm1 hm ho.rd (HL.out.stay (HST.out.trans S1.out)) HLL.out
           have HSS : Hid (Calls Tryz.prog 162 #[.slice (some ⟨g, 0, none⟩) k u, .slice lo k cl] w1 fun e w' => ∃ g, e = .returned (.slice (some ⟨g, 0, none⟩) m m) /\ w1.heap.size <= g /\ Own w' g m m (lin k (gen k (k + j)) D) /\ Below w1.heap.size w1 w') := HS
           have HK1 : Hid (Kept w1 b B k r (n + 12 * j + 12) 0 0) := hk1'
           have HE1 : Hid (Keeps b (b + 1) wr w1) := hke1
           clear hg ho hk1' hke1 HS HRR)
        | (go_at_call 162; refine HSS.out.mono ?_; rintro e w2 ⟨g2, rfl, hg2, ho2, hb2⟩
           have HO2 : Hid (Own w2 g2 m m (lin k (gen k (k + j)) D)) := ho2
           have HB2 : Hid (Below w1.heap.size w1 w2) := hb2
           have HC2 : Hid (Copied w2 w.heap.size j (.slice ao j cap) T (fun _ => m) U (par k D)) := HCP.out.stay (S1.out.trans (Stay.of_below hb2))
           have HOV : Hid (w2.ownsRow w.heap.size 74 1 (.slice ao j cap) j XS) := (by rw [<- HXS.out]; exact HC2.out.out)
           have hs2 : w.heap.size <= w2.heap.size := Nat.le_trans hws (Nat.le_trans HE1.out.size hb2.size)
           clear ho2 hb2 HSS)
        | (at_builtin; refine wpList_append_lies _ (by rfl) (.tmp 15) (.tmp 26) 24 (by rfl) w.heap.size 74 j0 (.slice none 0 0) 1 24 Tryz.underlying24 hj hj0 hj1 hj2 (by rfl) (by decide) (.slice ao j cap) j XS (by rfl) (HOV.out.alloc _) ⟨w2.heap.size, 0, none⟩ 1 1 [.slice (some ⟨g2, 0, none⟩) m m] (by rfl) (by rfl) (World.news_of_block (heap_alloc_new w2 _)) (by simp [Value.oneCell']) (by decide) (by unfold maxLen; omega) (by omega) (by simp; omega) (w2.heap.size + 1) (by simp) ?_; intro g3 cap3 w3 hown3 hgrow3 _ _))
      have HC3 : Hid (∃ T U, Copied w3 w.heap.size (j + 1) (.slice (some ⟨g3, 0, none⟩) (j + 1) cap3) T (fun _ => m) U (par k D)) := by
        have hs1 : w.heap.size <= w1.heap.size := Nat.le_trans hws HE1.out.size
        have hp := HC2.out.push (owns_base (own_owns HO2.out) (by omega)) (fun i a b hi ea eb => by
          have := (HCP.out.stay S1.out).old hi ea
          cases eb
          show a.block ≠ g2
          omega) hgrow3 (by rw [HXS.out]; exact hown3)
        exact ⟨_, _, hp.congr (fun _ _ => rfl) (fun i _ => put_self j i (fun _ => m)) (fun _ _ => rfl) (fun i _ => put_self j i (par k D))⟩
      have HK3 : Hid (Kept w3 b B k r (n + 12 * (j + 1)) 0 0) := (((HK1.out.below HB2.out).below ((Below.refl _ _).alloc (Nat.le_refl _) _)).grown (HOV.out.alloc _) hgrow3).mono (by omega)
      have HE3 : Hid (Keeps b (b + 1) w w3) := (((hkeep.out.trans HE1.out).trans (Keeps.of_below HB2.out)).alloc _).grown2 hgrow3 (fun q hq => (HOV.out.lt q hq).1)
      clear hown3 hgrow3
      go_roundw
      case rel => exact ⟨j + 1, by omega, by go_num, ⟨_, _, rfl⟩, HC3, HK3, HE3⟩
      case measure => simp [intOf]; omega
    · obtain rfl : j = r := by omega
      go_wp2
      go_ret
      obtain ⟨T, U, hcp⟩ := hcop.out
      exact ⟨ao, cap, T, U, rfl, hcp, hkept.out, hkeep.out⟩
end Go.Proofs.YtngcdlodcdgcaaaGreat.Cod
