/- The document's half: what a byte shows, what a thing is, quoted texts. -/
import Derived.Test.YtdiecjkmbmgbkaaDoorNmC
import Derived.Laws.AppendOwnNone
import Derived.Laws.OwnMore
import Derived.Deep.OwnRows
namespace Go.Proofs.YtdiecjkmbmgbkaaDoor
open Go.RowKit

set_option maxRecDepth 100000 in
theorem hx_num : ∀ n, n < 16 → ((hx n).toNat : Int) = if n < 10 then 48 + n else 87 + n := by decide
set_option maxHeartbeats 400000 in
theorem sixteen_any (n : Nat) (h : n < 16) (w : World) : Calls Tryd.prog 44 #[.int .u8 (n : Int)] w fun e w' => e = .returned (.int .u8 ((hx n).toNat : Int)) ∧ w' = w := by
  have hn := hx_num n h
  by_cases h1 : n < 10
  · rw [if_pos h1] at hn
    rw [hn]
    go_enter Tryd.func44, Tryd.ntmps44
    go_wp2
    go_ret
    exact ⟨rfl, rfl⟩
  · rw [if_neg h1] at hn
    rw [hn]
    go_enter Tryd.func44, Tryd.ntmps44
    go_wp2
    go_ret
    exact ⟨ret_u8 (by omega), rfl⟩
set_option maxRecDepth 100000 in
theorem wth_num : ∀ c : UInt8, (wth c : Int) = if 48 ≤ (c.toNat : Int) ∧ (c.toNat : Int) ≤ 57 then (c.toNat : Int) - 48 else if 97 ≤ (c.toNat : Int) ∧ (c.toNat : Int) ≤ 102 then (c.toNat : Int) - 97 + 10 else 16 := all8 (p := fun c => (wth c : Int) = if 48 ≤ (c.toNat : Int) ∧ (c.toNat : Int) ≤ 57 then (c.toNat : Int) - 48 else if 97 ≤ (c.toNat : Int) ∧ (c.toNat : Int) ≤ 102 then (c.toNat : Int) - 97 + 10 else 16) (by decide)
set_option maxHeartbeats 400000 in
theorem worth_any (c : UInt8) (w : World) : Calls Tryd.prog 56 #[.int .u8 (c.toNat : Int)] w fun e w' => e = .returned (.int .i64 (wth c : Int)) ∧ w' = w := by
  have hm := c.toNat_lt
  have hn := wth_num c
  by_cases h1 : 48 ≤ (c.toNat : Int) ∧ (c.toNat : Int) ≤ 57
  · rw [if_pos h1] at hn
    rw [hn]
    clear hn
    obtain ⟨a1, a2⟩ := h1
    go_enter Tryd.func56, Tryd.ntmps56
    go_wp2
    go_ret
    exact ⟨rfl, rfl⟩
  · rw [if_neg h1] at hn
    have h1' : (c.toNat : Int) < 48 ∨ 57 < (c.toNat : Int) := by omega
    by_cases h2 : 97 ≤ (c.toNat : Int) ∧ (c.toNat : Int) ≤ 102
    · rw [if_pos h2] at hn
      rw [hn]
      clear hn h1
      obtain ⟨a1, a2⟩ := h2
      go_enter Tryd.func56, Tryd.ntmps56
      go_wp2
      go_ret
      exact ⟨rfl, rfl⟩
    · rw [if_neg h2] at hn
      rw [hn]
      have h2' : (c.toNat : Int) < 97 ∨ 102 < (c.toNat : Int) := by omega
      clear hn h1 h2
      go_enter Tryd.func56, Tryd.ntmps56
      go_wp2
      all_goals (
        go_ret
        exact ⟨rfl, rfl⟩)
/-- Bytes at a block's beginning. -/
def Bts (w : World) (g : Nat) (l : Nm) : Prop := ∀ j (hj : j < l.length), w.cell? ⟨g, j, none⟩ = some (.int .u8 ((l[j]'hj).toNat : Int))
theorem Bts.below {w w' : World} {g : Nat} {l : Nm} (h : Bts w g l) (hb : Below w.heap.size w w') : Bts w' g l := fun j hj => held (h j hj) hb
theorem bts_new (w : World) (l : Nm) : Bts (w.alloc (.cells (bts l) 5)) w.heap.size l := fun j hj => by
  have h : (w.alloc (.cells (bts l) 5)).heap[w.heap.size]? = some (.cells (bts l) 5) := by
    show (w.heap.push _)[w.heap.size]? = _
    simp
  rw [Lib.cell_of_heap h]
  simp [bts, hj]
set_option maxHeartbeats 1000000 in
set_option maxRecDepth 100000 in
theorem rshown_any (c : UInt8) (w : World) : Calls Tryd.prog 37 #[.int .u8 (c.toNat : Int)] w fun e w' => ∃ g cap, e = .returned (.slice (some ⟨g, 0, none⟩) (shw c).length cap) ∧ w.heap.size ≤ g ∧ Bts w' g (shw c) ∧ Below w.heap.size w w' := by
  have hm := c.toNat_lt
  by_cases h34 : c = 34
  · subst h34
    go_enter Tryd.func37, Tryd.ntmps37
    go_wp2
    go_ret
    exact ⟨_, _, rfl, Nat.le_refl _, bts_new w [92, 34], below_alloc _ _⟩
  by_cases h92 : c = 92
  · subst h92
    go_enter Tryd.func37, Tryd.ntmps37
    go_wp2
    go_ret
    exact ⟨_, _, rfl, Nat.le_refl _, bts_new w [92, 92], below_alloc _ _⟩
  have e34 : ((c.toNat : Int) == 34) = false := u8_ne h34
  have e92 : ((c.toNat : Int) == 92) = false := u8_ne h92
  by_cases hp : 33 ≤ c ∧ c ≤ 126
  · rw [show shw c = [c] from (if_neg (by rintro (h | h); exact h34 h; exact h92 h)).trans (if_pos hp)]
    obtain ⟨p1, p2⟩ := hp
    have q1 : (33 : Int) ≤ c.toNat := u8_le p1
    have q2 : (c.toNat : Int) ≤ 126 := u8_le p2
    clear p1 p2
    go_enter Tryd.func37, Tryd.ntmps37
    go_wp2
    go_ret
    exact ⟨_, _, rfl, Nat.le_refl _, bts_new w [c], below_alloc _ _⟩
  · rw [show shw c = [92, 120, hx (c.toNat / 16), hx (c.toNat % 16)] from (if_neg (by rintro (h | h); exact h34 h; exact h92 h)).trans (if_neg hp)]
    have hpp : (c.toNat : Int) < 33 ∨ 126 < (c.toNat : Int) := by
      refine Classical.byContradiction fun h => hp ⟨UInt8.le_iff_toNat_le.2 ?_, UInt8.le_iff_toNat_le.2 ?_⟩
      · show 33 ≤ c.toNat
        omega
      · show c.toNat ≤ 126
        omega
    have H1 : ∀ w, Calls Tryd.prog 44 #[.int .u8 ((c.toNat : Int) / 16)] w _ := sixteen_any (c.toNat / 16) (by omega)
    have H2 : ∀ w, Calls Tryd.prog 44 #[.int .u8 ((c.toNat : Int) % 16)] w _ := sixteen_any (c.toNat % 16) (by omega)
    go_enter Tryd.func37, Tryd.ntmps37
    go_wp2_with (fail)
    all_goals (
      refine (H1 _).mono ?_
      rintro _ w1 ⟨rfl, rfl⟩
      go_wp2_with (fail)
      refine (H2 _).mono ?_
      rintro _ w2 ⟨rfl, rfl⟩
      go_wp2_with (fail)
      go_ret
      exact ⟨_, _, rfl, Nat.le_refl _, bts_new _ [92, 120, hx (c.toNat / 16), hx (c.toNat % 16)], below_alloc _ _⟩)
theorem byteInfo5 : (Tryd.prog.info? 5).map (fun i => (i.zero, i.size, i.bytes)) = some (some (.int .u8 0), 1, 1) := by kernel_rfl
def bcs (l : Nm) : List Value := l.map fun b => Value.int .u8 (b.toNat : Int)
/-- A row of bytes of the call's own. -/
def OwS (B : Nat) (w : World) (v : Value) (l : Nm) : Prop := ((v = .slice none 0 0 ∧ l = []) ∨ ∃ g cap, v = .slice (some ⟨g, 0, none⟩) l.length cap) ∧ w.ownsRow B 5 1 v l.length (bcs l)
theorem OwS.bts {B : Nat} {w : World} {g n cap : Nat} {l : Nm} (h : OwS B w (.slice (some ⟨g, 0, none⟩) n cap) l) : n = l.length ∧ Bts w g l := by
  obtain ⟨h1, h2⟩ := h
  rcases h1 with ⟨e, _⟩ | ⟨g', cap', e⟩
  · cases e
  · cases e
    exact ⟨rfl, fun j hj => by rw [h2.cellAt j (by omega)]; simp [bcs, hj]⟩
theorem OwS.cases {B : Nat} {w : World} {v : Value} {l : Nm} (h : OwS B w v l) (hl : l ≠ []) : ∃ g cap, v = .slice (some ⟨g, 0, none⟩) l.length cap ∧ Bts w g l := by
  rcases h.1 with ⟨_, e⟩ | ⟨g, cap, rfl⟩
  · exact absurd e hl
  · exact ⟨g, cap, rfl, h.bts.2⟩
theorem OwS.below {B : Nat} {w w' : World} {v : Value} {l : Nm} (h : OwS B w v l) (hb : Below w.heap.size w w') : OwS B w' v l := by
  refine ⟨h.1, h.2.1, ?_⟩
  rcases h.2.2 with e | ⟨g, cap, cur, e1, e2, e3, e4⟩
  · exact .inl e
  · refine .inr ⟨g, cap, cur, e1, e2, ?_, e4⟩
    have : g < w.heap.size := by
      rcases Nat.lt_or_ge g w.heap.size with h' | h'
      · exact h'
      · rw [Array.getElem?_eq_none h'] at e3; cases e3
    rw [hb.block g this]; exact e3
theorem ows_lit (w : World) (l : Nm) (hl : l.length ≤ 1000000) : OwS w.heap.size (w.alloc (.cells (bts l) 5)) (.slice (some ⟨w.heap.size, 0, none⟩) l.length l.length) l := by
  refine ⟨.inr ⟨_, _, rfl⟩, ?_⟩
  have := World.ownsRow_lit (base := w.heap.size) (e := 5) (size := 1) w (bts l) l.length (Nat.le_refl _) (by unfold maxLen; omega) (by simp [_root_.Go.Proofs.YtdiecjkmbmgbkaaDoor.bts])
  simpa [_root_.Go.Proofs.YtdiecjkmbmgbkaaDoor.bts, bcs] using this
theorem ows_nil (B : Nat) (w : World) : OwS B w (.slice none 0 0) [] := ⟨.inl ⟨rfl, rfl⟩, World.ownsRow_nil _ _ _ _⟩
/-- Bytes put behind a row of the call's own. -/
theorem app_bytes {w : World} {ops : Array Oper} {rest : List Oper} {o : Oper} {a : Act} {Q : Exit → Act → World → Prop} (hgd : o.guard = none) (s x : Operand)
    (ho : o.op = .call { callee := .builtin .append, args := #[s, x], argTypes := #[23, 23] }) (B : Nat) (v : Value) (l m : Nm) (g cb : Nat)
    (hs : a.eval s = v) (hx : a.eval x = .slice (some ⟨g, 0, none⟩) m.length cb) (h : OwS B w v l) (hm : Bts w g m) (hl : l.length ≤ 1000000) (hn : m.length ≤ 1000000) (hB : B ≤ w.heap.size)
    (cont : ∀ v' w', Hid (OwS B w' v' (l ++ m)) → Hid (Below B w w') → wpList Tryd.prog ops Q rest (a.put o.dst v') w') : wpList Tryd.prog ops Q (o :: rest) a w := by
  obtain ⟨j0, hj, hj0, hj1, hj2⟩ := info_parts byteInfo5
  refine wpList_append_own w hgd s x 23 ho B 5 j0 (.int .u8 0) 1 1 Tryd.underlying23 hj hj0 hj1 hj2 rfl (by decide) v l.length (bcs l) hs h.2 ⟨g, 0, none⟩ m.length cb (bcs m) hx (by simp [bcs]) (fun j u hu => ?_) (fun u hu => ?_) (by unfold maxLen; omega) (by omega) hB ?_
  · have hj : j < m.length := by have := (List.getElem?_eq_some_iff.1 hu).1; simpa [bcs] using this
    rw [Addr.add_lit, Nat.zero_add, hm j hj, ← hu]
    simp [bcs, hj]
  · simp only [bcs, List.mem_map] at hu
    obtain ⟨b, _, rfl⟩ := hu
    rfl
  · intro v' w' h1 h2 h3
    refine cont v' w' ⟨?_, by rw [List.length_append, show bcs (l ++ m) = bcs l ++ bcs m by simp [bcs]]; exact h1⟩ ((Below.refl _ _).grown h2 hB (fun q hq => (h.2.lt q hq).1))
    rcases h1.2 with ⟨rfl, e⟩ | ⟨g, cap, cur, rfl, _⟩
    · exact .inl ⟨rfl, List.length_eq_zero_iff.1 (by rw [List.length_append]; exact e)⟩
    · exact .inr ⟨g, cap, by rw [List.length_append]⟩
end Go.Proofs.YtdiecjkmbmgbkaaDoor
