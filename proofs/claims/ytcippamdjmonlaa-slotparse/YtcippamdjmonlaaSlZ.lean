/- A slot in memory of its own: twin. -/
import Derived.Test.YtcippamdjmonlaaSlH
import Derived.Test.YtcippamdjmonlaaSlY
namespace Go.Proofs.Ytcippamdjmonlaa
open Go.RowKit

/-- Integers appended to none. -/
theorem wpList_append_new {w : World} {ops : Array Oper} {rest : List Oper} {o : Oper} {a : Act} {Q : Exit → Act → World → Prop} (hgd : o.guard = none) (s x : Operand)
    (ho : o.op = .call { callee := .builtin .append, args := #[s, x], argTypes := #[24, 24] }) (n cb : Nat) (bo : Option Addr) (R : Nat → Int)
    (hs : a.eval s = .slice none 0 0) (hx : a.eval x = .slice bo n cb) (hv : Vec w bo n cb R) (hn : n * 8 ≤ 140737488355328)
    (cont : ∀ ao' c' w', Own w.heap.size w' ao' n c' R → Below w.heap.size w w' → wpList Try.prog ops Q rest (a.put o.dst (.slice ao' n c')) w') : wpList Try.prog ops Q (o :: rest) a w := by
  obtain ⟨j0, hj, hj0, hj1, hj2⟩ := info_parts info3
  have h := own_nil w.heap.size w R
  cases bo with
  | none =>
    obtain ⟨rfl, rfl⟩ := hv.nil rfl
    have := cont none 0 w h (Below.refl _ _)
    exact wpList_append_own_none hgd s x 24 ho w.heap.size 3 j0 1 Try.underlying24 hj (.slice none 0 0) 0 [] hs (World.ownsRow_nil _ _ _ _) hx this
  | some ad =>
    refine wpList_append_own w hgd s x 24 ho w.heap.size 3 j0 (.int .i64 0) 1 8 Try.underlying24 hj hj0 hj1 hj2 rfl (by decide) (.slice none 0 0) 0 [] hs (World.ownsRow_nil _ _ _ _) ad n cb (zOf n R) hx (by rw [zOf_length, Nat.mul_one]) (fun j u hu => ?_) (zOf_one _ _) (by unfold maxLen; omega) (by omega) (Nat.le_refl _) ?_
    · have hj : j < n := list_lt (zOf_length n R) hu
      rw [zOf_get _ _ _ hj] at hu
      obtain ⟨b, off, e, hc⟩ := hv.rd (by omega)
      cases e
      rw [Addr.add_lit, hc j hj]; exact hu
    · intro v' w' h1 h2 _
      rw [Nat.zero_add, List.nil_append] at h1
      obtain ⟨ao', c', rfl⟩ : ∃ ao' c', v' = .slice ao' n c' := by
        rcases h1.2 with ⟨rfl, e⟩ | ⟨g, cap, cur, rfl, _⟩
        · rw [e]; exact ⟨none, 0, rfl⟩
        · exact ⟨_, cap, rfl⟩
      exact cont ao' c' w' h1 ((Below.refl _ w).grown h2 (Nat.le_refl _) (fun k e => by cases e))
/-- Bytes appended to none. -/
theorem wpList_append_newb {w : World} {ops : Array Oper} {rest : List Oper} {o : Oper} {a : Act} {Q : Exit → Act → World → Prop} (hgd : o.guard = none) (s x : Operand)
    (ho : o.op = .call { callee := .builtin .append, args := #[s, x], argTypes := #[25, 25] }) (n cb : Nat) (bo : Option Addr) (F : Nat → UInt8)
    (hs : a.eval s = .slice none 0 0) (hx : a.eval x = .slice bo n cb) (hv : Bec w bo n cb F) (hn : n ≤ 140737488355328)
    (cont : ∀ ao' c' w', OwU w.heap.size w' ao' n c' F → Below w.heap.size w w' → wpList Try.prog ops Q rest (a.put o.dst (.slice ao' n c')) w') : wpList Try.prog ops Q (o :: rest) a w := by
  refine wpList_append_bytes hgd s x ho w.heap.size 0 n 0 cb none bo F F hs hx (owu_nil _ _ _) hv (by omega) (Nat.le_refl _) ?_
  intro ao' c' w' h1 h2
  have h3 : OwU w.heap.size w' ao' n c' F := by
    rw [Nat.zero_add] at h1
    exact h1.congr fun i hi => by rw [upR_in (by omega), Nat.sub_zero]
  have := cont ao' c' w' h3 ((Below.refl _ w).grown h2 (Nat.le_refl _) (fun k e => by cases e))
  rw [Nat.zero_add]
  exact this
theorem Bec.onlyn {X : Nat → Prop} {w w' : World} {ao : Option Addr} {n cap : Nat} {F : Nat → UInt8} (h : Bec w ao n cap F) (ho : Only X w w') (hx : 0 < n → ∀ a, ao = some a → ¬ X a.block) : Bec w' ao n cap F :=
  ⟨fun hn => by obtain ⟨b, off, rfl, hc⟩ := h.rd hn; exact ⟨b, off, rfl, fun i hi => ho.cell (hc i hi) (hx hn ⟨b, off, none⟩ rfl)⟩, h.nil, h.room⟩
theorem only1 (w : World) (b i : Nat) (u : Value) : Only (fun x => x = b) w (w.setCell ⟨b, i, none⟩ u) := Only.setCell (X := fun x => x = b) (p := ⟨b, i, none⟩) (Only.refl _ _) rfl _
set_option maxHeartbeats 4000000 in
set_option maxRecDepth 100000 in
theorem twin_any (w : World) (s : Sl) (ao : Option Addr) (ca : Nat) (bo : Option Addr) (cb : Nat) (hs : Has w s ao ca bo cb) (hv : s.vn * 8 ≤ 140737488355328) (hd : s.dn ≤ 140737488355328) :
    Calls Try.prog 8 #[slv s ao ca bo cb] w fun e w' => ∃ ao' ca' bo' cb', e = .returned (slv s ao' ca' bo' cb') ∧ Got w.heap.size w' s ao' ca' bo' cb' ∧ Below w.heap.size w w' := by
  unfold slv
  have HV : Hid (Vec w ao s.vn ca s.V) := hs.vec
  have HD : Hid (Bec w bo s.dn cb s.D) := hs.bec
  have HVN : Hid (s.vn * 8 ≤ 140737488355328) := hv
  have HDN : Hid (s.dn ≤ 140737488355328) := hd
  clear hs hv hd
  obtain ⟨w0, hw0⟩ : ∃ w0, w0 = w.alloc (.cells #[.int .u8 ((s.kd.toNat : Nat) : Int), .int .i64 s.ix, .int .i64 s.ce, .int .i64 s.st, .slice ao s.vn ca, .slice bo s.dn cb] 27) := ⟨_, rfl⟩
  obtain ⟨w1, hw1⟩ : ∃ w1, w1 = w0.alloc (.cells #[.int .u8 0, .int .i64 0, .int .i64 0, .int .i64 0, .slice none 0 0, .slice none 0 0] 27) := ⟨_, rfl⟩
  obtain ⟨w2, hw2⟩ : ∃ w2, w2 = w1.alloc (.cells #[.int .u8 ((s.kd.toNat : Nat) : Int), .int .i64 s.ix, .int .i64 s.ce, .int .i64 s.st, .slice none 0 0, .slice none 0 0] 27) := ⟨_, rfl⟩
  have b0 : Below w.heap.size w w0 := by rw [hw0]; exact below_alloc _ _
  have b1 : Below w0.heap.size w0 w1 := by rw [hw1]; exact below_alloc _ _
  have b2 : Below w1.heap.size w1 w2 := by rw [hw2]; exact below_alloc _ _
  have z0 : w0.heap.size = w.heap.size + 1 := by rw [hw0]; simp
  have z1 : w1.heap.size = w.heap.size + 1 + 1 := by rw [hw1]; simp [z0]
  have z2 : w2.heap.size = w.heap.size + 1 + 1 + 1 := by rw [hw2]; simp [z1]
  have HC : Hid (∀ v, Below w2.heap.size w2 v → Cel v w.heap.size #[.int .u8 ((s.kd.toNat : Nat) : Int), .int .i64 s.ix, .int .i64 s.ce, .int .i64 s.st, .slice ao s.vn ca, .slice bo s.dn cb].toList) := fun v hv => ((cel_new hw0).below (below_then b1 b2)).below hv
  have HQ : Hid (∀ v, Below w2.heap.size w2 v → At w0 v (w.heap.size + 1) #[.int .u8 0, .int .i64 0, .int .i64 0, .int .i64 0, .slice none 0 0, .slice none 0 0] 27) := fun v hv => by
    have h1 : At w0 w1 w0.heap.size #[.int .u8 0, .int .i64 0, .int .i64 0, .int .i64 0, .slice none 0 0, .slice none 0 0] 27 := by rw [hw1]; exact at_new (Below.refl _ _) _ _
    rw [← z0]
    exact (h1.below b2).below hv
  have HT : Hid (∀ v, Below w2.heap.size w2 v → At w1 v (w.heap.size + 1 + 1) #[.int .u8 ((s.kd.toNat : Nat) : Int), .int .i64 s.ix, .int .i64 s.ce, .int .i64 s.st, .slice none 0 0, .slice none 0 0] 27) := fun v hv => by
    have h1 : At w1 w2 w1.heap.size #[.int .u8 ((s.kd.toNat : Nat) : Int), .int .i64 s.ix, .int .i64 s.ce, .int .i64 s.st, .slice none 0 0, .slice none 0 0] 27 := by rw [hw2]; exact at_new (Below.refl _ _) _ _
    rw [← z1]
    exact h1.below hv
  have HB2 : Hid (Below w.heap.size w w2) := below_then (below_then b0 b1) b2
  have HZ2 : Hid (w2.heap.size = w.heap.size + 1 + 1 + 1) := z2
  have HDA : Hid (∀ va v, Below w2.heap.size w2 va → Only (fun b => b = w.heap.size + 1 + 1) va v → Bec v bo s.dn cb s.D) := fun va v hva hv => ((HD.out.below HB2.out).below hva).onlyn hv (fun hn a ha => by have := HD.out.blk hn ha; omega)
  have n1 : ¬ w.heap.size = w.heap.size + 1 + 1 := by omega
  have n2 : ¬ w.heap.size + 1 + 1 = w.heap.size := by omega
  have n3 : ¬ w.heap.size + 1 = w.heap.size + 1 + 1 := by omega
  have n4 : ¬ w.heap.size + 1 + 1 = w.heap.size + 1 := by omega
  clear b0 b1 b2 z0 z1 z2
  go_enter Try.func8, Try.ntmps8
  go_wp2_with (at_builtin; first
    | (rw [← hw0, ← hw1, ← hw2]; clear hw0 hw1 hw2; refine wpList_append_new rfl (.tmp 8) (.tmp 10) rfl s.vn ca ao s.V rfl rfl (HV.out.below HB2.out) HVN.out ?_; intro ao' ca' wa ha ba; have HA : Hid (Own w2.heap.size wa ao' s.vn ca' s.V) := ha; have HBA : Hid (Below w2.heap.size w2 wa) := ba; have hta := HT.out wa ba; have t4 := hta.cell (i := 4) rfl; have t5 := hta.cell (i := 5) rfl; have tf := hta.free; have s5 := HC.out wa ba 5 _ rfl; have HTA : Hid (At w1 wa (w.heap.size + 1 + 1) #[.int .u8 ((s.kd.toNat : Nat) : Int), .int .i64 s.ix, .int .i64 s.ce, .int .i64 s.st, .slice none 0 0, .slice none 0 0] 27) := hta; clear ha ba hta)
    | (refine wpList_append_newb rfl (.tmp 14) (.tmp 16) rfl s.dn cb bo s.D rfl rfl (HDA.out _ _ HBA.out (only1 _ _ _ _)) HDN.out ?_; intro bo' cb' wc hc bc; have HD2 : Hid (OwU w2.heap.size wc bo' s.dn cb' s.D) := hc.mono (by simp [World.setCell]; exact HBA.out.size); have htc : At w1 wc (w.heap.size + 1 + 1) #[.int .u8 ((s.kd.toNat : Nat) : Int), .int .i64 s.ix, .int .i64 s.ce, .int .i64 s.st, .slice ao' s.vn ca', .slice none 0 0] 27 := At.below (HTA.out.set 4 _) bc; have hqc : At w0 wc (w.heap.size + 1) #[.int .u8 0, .int .i64 0, .int .i64 0, .int .i64 0, .slice none 0 0, .slice none 0 0] 27 := At.below ((HQ.out wa HBA.out).far n3 _ _) bc; have HV2 : Hid (Own w2.heap.size wc ao' s.vn ca' s.V) := Own.below (HA.out.stay fun g hg _ => Below.heap_setCell _ _ _ _ (by simp only; have := HZ2.out; omega)) bc; have HB3 : Hid (Below w.heap.size w wc) := ((below_then HB2.out HBA.out).trans ((only1 wa (w.heap.size + 1 + 1) 4 _).below (fun i hi => by omega) (Nat.le_trans HB2.out.size HBA.out.size))).trans (bc.mono (by simp [World.setCell]; exact Nat.le_trans HB2.out.size HBA.out.size)); have u0 := htc.cell (i := 0) rfl; have u1 := htc.cell (i := 1) rfl; have u2 := htc.cell (i := 2) rfl; have u3 := htc.cell (i := 3) rfl; have u4 := htc.cell (i := 4) rfl; have u5 := htc.cell (i := 5) rfl; have uf := htc.free; have c0 := hqc.cell (i := 0) rfl; have c1 := hqc.cell (i := 1) rfl; have c2 := hqc.cell (i := 2) rfl; have c3 := hqc.cell (i := 3) rfl; have c4 := hqc.cell (i := 4) rfl; have c5 := hqc.cell (i := 5) rfl; have cf := hqc.free; clear hc bc htc hqc t4 t5 tf s5))
  refine bodyPost_ret (v := .agg #[.int .u8 ((s.kd.toNat : Nat) : Int), .int .i64 s.ix, .int .i64 s.ce, .int .i64 s.st, .slice ao' s.vn ca', .slice bo' s.dn cb']) (by simp [results, Try.results8, go_sem, c0, c1, c2, c3, c4, c5]) rfl ?_
  have hz := HZ2.out
  refine ⟨ao', ca', bo', cb', rfl, ⟨(HV2.out.stay fun g hg _ => ?_).mono (by omega), (HD2.out.stay fun g hg _ => ?_).mono (by omega)⟩, ?_⟩
  · rw [Below.heap_setCell _ _ _ _ (by simp only; omega), Below.heap_setCell _ _ _ _ (by simp only; omega), Below.heap_setCell _ _ _ _ (by simp only; omega), Below.heap_setCell _ _ _ _ (by simp only; omega), Below.heap_setCell _ _ _ _ (by simp only; omega), Below.heap_setCell _ _ _ _ (by simp only; omega), Below.heap_setCell _ _ _ _ (by simp only; omega)]
  · rw [Below.heap_setCell _ _ _ _ (by simp only; omega), Below.heap_setCell _ _ _ _ (by simp only; omega), Below.heap_setCell _ _ _ _ (by simp only; omega), Below.heap_setCell _ _ _ _ (by simp only; omega), Below.heap_setCell _ _ _ _ (by simp only; omega), Below.heap_setCell _ _ _ _ (by simp only; omega), Below.heap_setCell _ _ _ _ (by simp only; omega)]
  · exact ((((((HB3.out.setCell (by simp only; omega) _).setCell (by simp only; omega) _).setCell (by simp only; omega) _).setCell (by simp only; omega) _).setCell (by simp only; omega) _).setCell (by simp only; omega) _).setCell (by simp only; omega) _
end Go.Proofs.Ytcippamdjmonlaa
