/- An answer written over, and behind its end: what lies elsewhere stays. -/
import Derived.Test.YtenlfhdchflnjaaImgQ
namespace Go.Proofs.Ytenlfhdchflnjaa
open Go.RowKit

/-- Bytes in a block of their own, or none. -/
def Sc (w : World) (ao : Option Addr) (n cp : Nat) : Prop :=
  (ao = none ∧ n = 0 ∧ cp = 0) ∨ ∃ (g : Nat) (f : Nat → Int), ao = some ⟨g, 0, none⟩ ∧ cp = n ∧ 0 < n ∧ w.rowIs g 5 n (fun j => .int .u8 (f j))
/-- Blocks of bytes stay blocks of bytes. -/
def Kb (w w' : World) : Prop := ∀ (g n : Nat) (f : Nat → Int), w.rowIs g 5 n (fun j => .int .u8 (f j)) → ∃ f' : Nat → Int, w'.rowIs g 5 n (fun j => .int .u8 (f' j))
theorem Kb.refl (w : World) : Kb w w := fun _ _ f h => ⟨f, h⟩
theorem Kb.trans {a b c : World} (h : Kb a b) (k : Kb b c) : Kb a c := fun g n f h1 => by obtain ⟨f2, h2⟩ := h g n f h1; exact k g n f2 h2
theorem Kb.below {w w' : World} (h : Below w.heap.size w w') : Kb w w' := fun _ _ f h1 => ⟨f, h1.of_block (h.block _ h1.lt)⟩
theorem Sc.kb {w w' : World} {ao : Option Addr} {n cp : Nat} (h : Sc w ao n cp) (k : Kb w w') : Sc w' ao n cp := by
  rcases h with h | ⟨g, f, h1, h4, h5, h6⟩
  · exact .inl h
  · obtain ⟨f2, h7⟩ := k g n f h6
    exact .inr ⟨g, f2, h1, h4, h5, h7⟩
theorem OwC.sc {B : Nat} {w : World} {ao : Option Addr} {cp : Nat} {c : List UInt8} (h : OwC B w ao cp c) : Sc w ao c.length cp := by
  rcases h with ⟨h1, h2, h3⟩ | ⟨g, h1, h2, h3, h4, h5⟩
  · exact .inl ⟨h1, by rw [h2]; rfl, h3⟩
  · refine .inr ⟨g, fun j => ((c.getD j 0).toNat : Int), h1, h3, List.length_pos_iff.2 h4, _, h5, by simp [bys], fun i hi => ?_⟩
    simp [bys, hi, List.getD]
set_option maxRecDepth 100000 in
theorem wp_app8 {o : Oper} {a : Act} {w : World} {K : Act → World → Prop} {Q : Exit → Act → World → Prop} (s x : Operand) (ho : o.op = .call { callee := .builtin .append, args := #[s, x], argTypes := #[33, 33] }) (ao : Option Addr) (n cp : Nat) (hs : a.eval s = .slice ao n cp) (hsc : Sc w ao n cp) (hn : n ≤ 1000000) (ad : Addr) (c : Nat) (news : List Value) (hx : a.eval x = .slice (some ad) 8 c) (hl : news.length = 8) (hnews : ∀ j u, news[j]? = some u → w.cell? (ad.add j) = some u)
    (h : ∀ cap (cur : Array Value), (∃ v, cur[0]? = some v) → K (a.put o.dst (.slice (some ⟨w.heap.size, 0, none⟩) (n + 8) cap)) (w.drew.alloc (.cells cur 5))) : o.wp Try.prog a w K Q := by
  obtain ⟨i0, hi, hz0, hz1, hz2⟩ := info_parts info5
  rcases hsc with ⟨rfl, rfl, rfl⟩ | ⟨g, f, rfl, hcn, h0, hr⟩
  · have hrun := fun ty => run_append_nil (P := Try.prog) w 33 ty 5 i0 _ Try.underlying33 hi hz0 ad 8 c news (by rw [hz1, hl]) hnews (by decide) (by decide) (by rw [hz2]; decide)
    unfold Oper.wp
    simp [execOp, ho, resolve, invoke, builtin, hs, hx, hrun, Result.andThen]
    exact h _ _ ⟨_, Array.getElem?_eq_getElem (by simp; omega)⟩
  · subst hcn
    have hrun := fun ty => run_append_grow (P := Try.prog) w 33 ty 5 i0 _ Try.underlying33 hi hz0 ⟨g, 0, none⟩ cp cp ((List.range cp).map fun j => .int .u8 (f j)) (by simp [hz1]) (fun j v hv => by
        have hj : j < cp := by
          rcases Nat.lt_or_ge j cp with q | q
          · exact q
          · rw [List.getElem?_eq_none (by simpa using q)] at hv; cases hv
        simp [hj] at hv
        rw [← hv]
        rw [show (⟨g, 0, none⟩ : Addr).add j = ⟨g, j, none⟩ by by_cases h : j = 0 <;> simp [Addr.add, h]]
        exact hr.cell hj) ad 8 c news (by rw [hz1, hl]) hnews (by omega) (by omega) (by have := nextslicecap_le (need := cp + 8) (old := cp) (by omega); rw [hz2]; omega)
    unfold Oper.wp
    simp [execOp, ho, resolve, invoke, builtin, hs, hx, hrun, Result.andThen]
    exact h _ _ ⟨_, Array.getElem?_eq_getElem (by simp; omega)⟩
theorem wpList_app8 {ops : Array Oper} {rest : List Oper} {o : Oper} {a : Act} {w : World} {Q : Exit → Act → World → Prop} (hgd : o.guard = none) (s x : Operand) (ho : o.op = .call { callee := .builtin .append, args := #[s, x], argTypes := #[33, 33] }) (ao : Option Addr) (n cp : Nat) (hs : a.eval s = .slice ao n cp) (hsc : Sc w ao n cp) (hn : n ≤ 1000000) (ad : Addr) (c : Nat) (news : List Value) (hx : a.eval x = .slice (some ad) 8 c) (hl : news.length = 8) (hnews : ∀ j u, news[j]? = some u → w.cell? (ad.add j) = some u)
    (h : ∀ cap (cur : Array Value), (∃ v, cur[0]? = some v) → wpList Try.prog ops Q rest (a.put o.dst (.slice (some ⟨w.heap.size, 0, none⟩) (n + 8) cap)) (w.drew.alloc (.cells cur 5))) : wpList Try.prog ops Q (o :: rest) a w :=
  wpList_plain hgd fun _ hK => wp_app8 s x ho ao n cp hs hsc hn ad c news hx hl hnews fun cap cur h1 => hK _ _ (h cap cur h1)
theorem Only.setNew {X : Nat → Prop} {a b : World} (h : Only X a b) {p : Addr} (hp : a.heap.size ≤ p.block) (v : Value) : Only X a (b.setCell p v) :=
  ⟨h.os, h.tape, h.output, by have := h.size; simpa [World.setCell] using this, fun i hi hx => (Below.heap_setCell _ _ _ _ (by omega)).trans (h.block i hi hx)⟩
def e8 : List Value := [.int .u8 1, .int .u8 2, .int .u8 3, .int .u8 4, .int .u8 5, .int .u8 6, .int .u8 7, .int .u8 8]
set_option maxHeartbeats 2000000 in
set_option maxRecDepth 100000 in
theorem scratch_any (ao : Option Addr) (n cp : Nat) (hn : n ≤ 999999) (w : World) (h : Sc w ao n cp) :
    Calls Try.prog 35 #[.slice ao n cp] w fun e w' => e = .returned (.tuple #[]) ∧ Only (fun b => ∃ a, ao = some a ∧ a.block = b) w w' ∧ Kb w w' := by
  have HS : Hid (Sc w ao n cp) := h
  clear h
  go_enter Try.func35, Try.ntmps35
  go_wp2_with fail
  go_loopw [2] (fun x wr => ∃ i : Nat, i ≤ n ∧ x = .int .i64 i ∧ Hid (Sc wr ao n cp) ∧ Hid (Only (fun b => ∃ a, ao = some a ∧ a.block = b) w wr) ∧ Hid (Kb w wr)) (fun x _ => n - (intOf x).toNat)
  case atStart => exact ⟨0, Nat.zero_le _, rfl, HS.out, Only.refl _ _, Kb.refl _⟩
  case round =>
    obtain ⟨i, hi, rfl, hs, ho, hk⟩ := hrel
    by_cases hlt : i < n
    · obtain ⟨g, f, rfl, hcp, h0, hr⟩ : ∃ (g : Nat) (f : Nat → Int), ao = some ⟨g, 0, none⟩ ∧ cp = n ∧ 0 < n ∧ wr.rowIs g 5 n (fun j => .int .u8 (f j)) := by
        rcases hs.out with ⟨_, h, _⟩ | h
        · omega
        · exact h
      have cc := hr.cell hlt
      have cf := hr.frozen
      have HR : Hid (wr.rowIs g 5 n (fun j => .int .u8 (f j))) := hr
      have i1 : (0 : Int) ≤ (i : Int) := by omega
      have i2 : (i : Int) < (n : Int) := by omega
      obtain ⟨fz, hfz⟩ : ∃ fz, fz = f i := ⟨_, rfl⟩
      have HFZ : Hid (fz = f i) := hfz
      rw [← hfz] at cc
      clear hr hfz hcp
      go_wp2_with fail
      go_roundw
      case rel =>
        refine ⟨i + 1, by omega, by go_num, ?_, ho.out.setCell (p := ⟨g, i, none⟩) ⟨⟨g, 0, none⟩, rfl, rfl⟩ _, hk.out.trans fun g2 n2 f2 h2 => ?_⟩
        · have hs2 := hs.out
          rcases hs2 with ⟨e, _⟩ | ⟨g', f', e, a3, a4, a5⟩
          · cases e
          · cases e
            refine .inr ⟨g, fun j => if j = i then bits .xor .u8 fz 85 else f j, rfl, a3, a4, ?_⟩
            refine (HR.out.set i _).congr fun j _ => ?_
            by_cases e : j = i
            · show _ = Value.int .u8 (if j = i then _ else _); rw [if_pos e, if_pos e]
            · show _ = Value.int .u8 (if j = i then _ else _); rw [if_neg e, if_neg e]
        · by_cases e : g2 = g
          · subst e
            refine ⟨fun j => if j = i then bits .xor .u8 fz 85 else f2 j, (h2.set i _).congr fun j _ => ?_⟩
            by_cases e : j = i
            · show _ = Value.int .u8 (if j = i then _ else _); rw [if_pos e, if_pos e]
            · show _ = Value.int .u8 (if j = i then _ else _); rw [if_neg e, if_neg e]
          · exact ⟨f2, h2.setOther (a := ⟨g, i, none⟩) e _⟩
      case measure => simp [intOf]; omega
    · obtain rfl : n = i := by omega
      have HSA : Hid (Sc (wr.alloc (.cells #[.int .u8 1, .int .u8 2, .int .u8 3, .int .u8 4, .int .u8 5, .int .u8 6, .int .u8 7, .int .u8 8] 5)) ao n cp) := hs.out.kb (.below (below_alloc _ _))
      have hzz := ho.out.size
      go_wp2_with (at_builtin; refine wpList_app8 (by rfl) (.tmp 18) (.tmp 19) (by rfl) ao n cp (by rfl) HSA.out (by omega) ⟨wr.heap.size, 0, none⟩ 8 e8 (by rfl) (by rfl) (World.news_of_block (heap_alloc_new wr _)) ?_; rintro cap cur ⟨v0, hv0⟩; obtain ⟨wy, hwy⟩ : ∃ wy, wy = (wr.alloc (.cells #[.int .u8 1, .int .u8 2, .int .u8 3, .int .u8 4, .int .u8 5, .int .u8 6, .int .u8 7, .int .u8 8] 5)).drew.alloc (.cells cur 5) := ⟨_, rfl⟩; have HWY : Hid (Below wr.heap.size wr wy) := (by rw [hwy]; exact below_then (below_alloc _ _) (below_then (below_drew _ _) (below_alloc _ _))); have hky : Blk wy (wr.heap.size + 1) 5 cur.toList := (by rw [hwy]; have := blk_new (wr.alloc (.cells #[.int .u8 1, .int .u8 2, .int .u8 3, .int .u8 4, .int .u8 5, .int .u8 6, .int .u8 7, .int .u8 8] 5)).drew 5 cur.toList; simpa using this); have k0 : wy.cell? ⟨wr.heap.size + 1, 0, none⟩ = some v0 := hky.cell (by simpa using hv0); have kf := hky.free; have k1 : (0 : Int) < ((n + 8 : Nat) : Int) := (by omega); rw [← hwy]; clear hky hwy hv0)
      refine bodyPost_end (results_none rfl _ _ _) rfl ?_
      have hset : ∀ g, g < wr.heap.size → ∀ v, (wy.setCell ⟨wr.heap.size + 1, 0, none⟩ v).heap[g]? = wr.heap[g]? := fun g hg v => (Below.heap_setCell _ _ _ _ (by show g ≠ wr.heap.size + 1; omega)).trans (HWY.out.block g hg)
      exact ⟨rfl, (ho.out.trans (.of_below HWY.out)).setNew (p := ⟨wr.heap.size + 1, 0, none⟩) (by show _ ≤ wr.heap.size + 1; omega) _, hk.out.trans fun g n f h => ⟨f, h.of_block (hset g h.lt _)⟩⟩
set_option maxHeartbeats 2000000 in
set_option maxRecDepth 100000 in
theorem spoil_any (k r c q : Int) (B T : Nat) (lo : Option Addr) (n cl : Nat) (A : Nat → Option Addr) (C : Nat → Nat) (F : Nat → List UInt8) (w : World) (h : Im B w lo n A C F) (hT : ∀ i a, i < n → A i = some a → a.block < T) (hn : n ≤ 1000000) (hF : ∀ i, i < n → (F i).length ≤ 999999) :
    Calls Try.prog 28 #[.agg #[.int .i64 k, .int .i64 r, .int .i64 c, .int .i64 q, .slice lo n cl]] w fun e w' => e = .returned (.tuple #[]) ∧ Only (fun b => B ≤ b ∧ b < T) w w' := by
  have HI : Hid (Im B w lo n A C F) := h
  have HT : Hid (∀ i a, i < n → A i = some a → a.block < T) := hT
  have HF : Hid (∀ i, i < n → (F i).length ≤ 999999) := hF
  clear h hT hF
  obtain ⟨w0, hw0⟩ : ∃ w0, w0 = w.alloc (.cells #[.int .i64 k, .int .i64 r, .int .i64 c, .int .i64 q, .slice lo n cl] 27) := ⟨_, rfl⟩
  have HB0 : Hid (Below w.heap.size w w0) := by rw [hw0]; exact below_alloc _ _
  have HC : Hid (w0.cell? ⟨w.heap.size, 4, none⟩ = some (.slice lo n cl)) := (img_held hw0 (Below.refl _ _)).2.2.2.2
  have HZ : Hid (w0.heap.size = w.heap.size + 1) := by rw [hw0]; show _ = _; simp
  have HS0 : Hid (∀ i, i < n → Sc w0 (A i) (F i).length (C i)) := fun i hi => by
    rcases HI.out with ⟨e, _⟩ | ⟨l, _, _, h⟩
    · omega
    · exact (h i hi).sc.kb (.below HB0.out)
  go_enter Try.func28, Try.ntmps28
  go_wp2_with fail
  rw [← hw0]
  clear hw0
  go_loopw [2] (fun x wr => ∃ i : Nat, i ≤ n ∧ x = .int .i64 i ∧ Hid (∀ i, i < n → Sc wr (A i) (F i).length (C i)) ∧ Hid (Only (fun b => ∃ i a, i < n ∧ A i = some a ∧ a.block = b) w0 wr)) (fun x _ => n - (intOf x).toNat)
  case atStart => exact ⟨0, Nat.zero_le _, rfl, HS0.out, Only.refl _ _⟩
  case round =>
    obtain ⟨i, hi, rfl, hs, ho⟩ := hrel
    have hlt0 : ∀ i a, i < n → A i = some a → a.block < w.heap.size := fun i a hi ha => by
      rcases HI.out with ⟨e, _⟩ | ⟨l, _, _, h⟩
      · omega
      · exact ((h i hi).at_ ha).2
    have c4 : wr.cell? ⟨w.heap.size, 4, none⟩ = some (.slice lo n cl) := ho.out.cell HC.out (by rintro ⟨j, a, hj, ha, e⟩; have := hlt0 j a hj ha; simp only at e; omega)
    by_cases hlt : i < n
    · obtain ⟨l, rfl, hr, hw⟩ : ∃ l, lo = some ⟨l, 0, none⟩ ∧ RSl w (fun b => B ≤ b) l n A C F ∧ ∀ i, i < n → OwC B w (A i) (C i) (F i) := by
        rcases HI.out with ⟨e, _⟩ | h
        · omega
        · exact h
      have ck : wr.cell? ⟨l, i, none⟩ = some (.slice (A i) (F i).length (C i)) := ho.out.cell (held (hr.cell i hlt) HB0.out) (by rintro ⟨j, a, hj, ha, e⟩; exact (hr.at_ j a hj ha).2 e)
      have HSC := scratch_any (A i) (F i).length (C i) (HF.out i hlt) wr (hs.out i hlt)
      have i1 : (0 : Int) ≤ (i : Int) := by omega
      have i2 : (i : Int) < (n : Int) := by omega
      clear hr hw hlt0
      go_wp2_with fail
      refine HSC.mono ?_
      rintro e wa ⟨rfl, ho2, hk2⟩
      go_wp2_with fail
      go_roundw
      case rel => exact ⟨i + 1, by omega, by go_num, fun j hj => (hs.out j hj).kb hk2, ho.out.trans (ho2.mono fun b _ ⟨a, ha, e⟩ => ⟨i, a, hlt, ha, e⟩)⟩
      case measure => simp [intOf]; omega
    · go_wp2_with fail
      refine bodyPost_end (results_none rfl _ _ _) rfl ?_
      refine ⟨rfl, (Only.of_below HB0.out).trans ⟨ho.out.os, ho.out.tape, ho.out.output, ho.out.size, fun b hb hx => ho.out.block b hb ?_⟩⟩
      rintro ⟨j, a, hj, ha, rfl⟩
      refine hx ⟨HI.out.ge.2 j a hj ha, HT.out j a hj ha⟩
end Go.Proofs.Ytenlfhdchflnjaa
