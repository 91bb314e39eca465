/- An image in new memory, as the document makes it. -/
import Derived.Test.YtenlfhdchflnjaaImgQ
namespace Go.Proofs.Ytenlfhdchflnjaa
open Go.RowKit

/-- What a round of Twin leaves. -/
def TwinR (w2 : World) (W0 : Nat) (k r c q : Int) (wr : World) (ao : Option Addr) (i cap : Nat) (A' : Nat → Option Addr) (C' : Nat → Nat) (F : Nat → List UInt8) : Prop :=
  Hid (Blk wr (W0 + 2) 27 [.int .i64 k, .int .i64 r, .int .i64 c, .int .i64 q, .slice ao i cap]) ∧ Hid (wr.ownsRow (W0 + 3) 33 1 (.slice ao i cap) i (svs A' C' F i)) ∧ Hid (Sls false wr (W0 + 3) ao i A' C' F) ∧ Hid (Below (W0 + 2) w2 wr) ∧ Hid (W0 + 3 ≤ wr.heap.size)
theorem twin_step {w2 wr wb wn : World} {W0 : Nat} {k r c q : Int} {ao an : Option Addr} {i cap cn g2 cap2 : Nat} {A' : Nat → Option Addr} {C' : Nat → Nat} {F : Nat → List UInt8} {XS : List Value}
    (hX : XS = svs A' C' F i) (hao : ∀ a, ao = some a → W0 + 3 ≤ a.block) (hW : W0 + 3 ≤ wr.heap.size) (hbk : Blk wr (W0 + 2) 27 [.int .i64 k, .int .i64 r, .int .i64 c, .int .i64 q, .slice ao i cap]) (how : wr.ownsRow (W0 + 3) 33 1 (.slice ao i cap) i (svs A' C' F i))
    (hsl : Sls false wr (W0 + 3) ao i A' C' F) (hbr : Below (W0 + 2) w2 wr) (hbb : Below wr.heap.size wr wb) (h1 : RdB wb an (F i)) (h2 : ∀ a, an = some a → wr.heap.size ≤ a.block ∧ a.block < wb.heap.size) (h3 : an = none → F i = [] ∧ cn = 0)
    (ho : wn.ownsRow (W0 + 3) 33 1 (.slice (some ⟨g2, 0, none⟩) (i + 1) cap2) (i + 1) (XS ++ [.slice an (F i).length cn])) (hg : ∀ x, x < wb.heap.size → (∀ a, ao = some a → x ≠ a.block) → wn.heap[x]? = wb.heap[x]?) (hw : (∃ a, ao = some a ∧ a.block = g2) ∨ g2 = wb.heap.size + 1) (hz : wb.heap.size + 1 ≤ wn.heap.size) (hf : wn.os = wb.os ∧ wn.tape = wb.tape ∧ wn.output = wb.output) :
    TwinR w2 W0 k r c q (wn.setCell ⟨W0 + 2, 4, none⟩ (.slice (some ⟨g2, 0, none⟩) (i + 1) cap2)) (some ⟨g2, 0, none⟩) (i + 1) cap2 (upd i an A') (upd i cn C') F := by
  obtain ⟨wf, hwf⟩ : ∃ wf, wf = wn.setCell ⟨W0 + 2, 4, none⟩ (.slice (some ⟨g2, 0, none⟩) (i + 1) cap2) := ⟨_, rfl⟩
  rw [← hwf]
  have hs := hbb.size
  have hzf : wf.heap.size = wn.heap.size := by rw [hwf]; simp [World.setCell]
  have hset : ∀ x, x ≠ W0 + 2 → wf.heap[x]? = wn.heap[x]? := fun x hx => by rw [hwf]; exact Below.heap_setCell _ _ _ _ hx
  have haol : ∀ a, ao = some a → a.block < wr.heap.size := fun a ha => (how.lt a.block (by subst ha; rfl)).2
  have hg2 : W0 + 3 ≤ g2 := by
    rcases hw with ⟨a, e, rfl⟩ | e
    · exact hao a e
    · omega
  have hblk : Blk wn (W0 + 2) 27 [.int .i64 k, .int .i64 r, .int .i64 c, .int .i64 q, .slice ao i cap] := by
    have e1 := hg (W0 + 2) (by omega) (fun a ha e => by have := hao a ha; omega)
    have e2 := hbb.block (W0 + 2) (by omega)
    exact e1.trans (e2.trans hbk)
  have hold : ∀ j, j < i → ∀ a, A' j = some a → wf.heap[a.block]? = wr.heap[a.block]? := fun j hj a ha => by
    obtain ⟨_, q2, _⟩ := hsl j hj
    obtain ⟨q3, q4, q5⟩ := q2 a ha
    rw [hset _ (by omega), hg _ (by omega) (fun d hd => q5 d hd), hbb.block _ q4]
  have hnew : ∀ a, an = some a → wf.heap[a.block]? = wb.heap[a.block]? := fun a ha => by
    have := h2 a ha
    rw [hset _ (by omega), hg _ (by omega) (fun d hd e => by have := haol d hd; omega)]
  refine ⟨?_, ?_, ?_, ?_, by show _ ≤ _; omega⟩
  · show Blk _ _ _ _
    rw [hwf]; exact hblk.set 4 _
  · show World.ownsRow _ _ _ _ _ _ _
    rw [show svs (upd i an A') (upd i cn C') F (i + 1) = XS ++ [.slice an (F i).length cn] by
      rw [svs, upd_at, upd_at, hX, svs_congr i (A := upd i an A') (C := upd i cn C') (F := F) (A' := A') (C' := C') (F' := F) fun j hj => ⟨upd_ne _ _ (by omega), upd_ne _ _ (by omega), rfl⟩]]
    exact owns_stay ho fun g hg0 _ => hset g (by omega)
  · intro j hj
    by_cases e : j = i
    · subst e
      rw [upd_at, upd_at]
      refine ⟨rdb_stay h1 hnew, fun a ha => ?_, h3, (fun h => by cases h)⟩
      have := h2 a ha
      refine ⟨by omega, by omega, fun d hd e2 => ?_⟩
      cases hd
      simp only at e2
      rcases hw with ⟨x, e, e3⟩ | e3
      · have := haol x e; omega
      · omega
    · rw [upd_ne _ _ e, upd_ne _ _ e]
      obtain ⟨q1, q2, q3, q4⟩ := hsl j (by omega)
      refine ⟨rdb_stay q1 (hold j (by omega)), fun a ha => ?_, q3, (fun h => by cases h)⟩
      obtain ⟨q5, q6, q7⟩ := q2 a ha
      refine ⟨q5, by omega, fun d hd e2 => ?_⟩
      cases hd
      simp only at e2
      rcases hw with ⟨x, e, e3⟩ | e3
      · exact q7 x e (by omega)
      · omega
  · refine ⟨?_, ?_, ?_, by have := hbr.size; omega, fun x hx => ?_⟩
    · rw [hwf]; exact hf.1.trans (hbb.os.trans hbr.os)
    · rw [hwf]; exact hf.2.1.trans (hbb.tape.trans hbr.tape)
    · rw [hwf]; exact hf.2.2.trans (hbb.output.trans hbr.output)
    · rw [hset x (by omega), hg x (by omega) (fun a ha e => by have := hao a ha; omega), hbb.block x (by omega), hbr.block x hx]
set_option maxHeartbeats 4000000 in
set_option maxRecDepth 100000 in
theorem Twin_any (k r c q : Int) (w : World) (lo : Option Addr) (n cl : Nat) (A : Nat → Option Addr) (C : Nat → Nat) (F : Nat → List UInt8) (hl : Lst w lo n A C F) (hn : n * 24 ≤ 140737488351232) (hF : ∀ i, i < n → (F i).length ≤ 140737488355328) :
    Calls Try.prog 20 #[.agg #[.int .i64 k, .int .i64 r, .int .i64 c, .int .i64 q, .slice lo n cl]] w fun e w' => ∃ lo' cl' A' C', e = .returned (.agg #[.int .i64 k, .int .i64 r, .int .i64 c, .int .i64 q, .slice lo' n cl']) ∧ w'.ownsRow (w.heap.size + 3) 33 1 (.slice lo' n cl') n (svs A' C' F n) ∧ Sls false w' (w.heap.size + 3) lo' n A' C' F ∧ Below w.heap.size w w' := by
  obtain ⟨i0, hin, hz0, hz1, hz2⟩ := info_parts info33
  have HL : Hid (Lst w lo n A C F) := hl
  have HF : Hid (∀ i, i < n → (F i).length ≤ 140737488355328) := hF
  obtain ⟨w1, hw1⟩ : ∃ w1, w1 = w.alloc (.cells #[.int .i64 k, .int .i64 r, .int .i64 c, .int .i64 q, .slice lo n cl] 27) := ⟨_, rfl⟩
  obtain ⟨w2, hw2⟩ : ∃ w2, w2 = w1.alloc (.cells #[.int .i64 0, .int .i64 0, .int .i64 0, .int .i64 0, .slice none 0 0] 27) := ⟨_, rfl⟩
  obtain ⟨w3, hw3⟩ : ∃ w3, w3 = w2.alloc (.cells #[.int .i64 k, .int .i64 r, .int .i64 c, .int .i64 q, .slice none 0 0] 27) := ⟨_, rfl⟩
  have b1 : Below w.heap.size w w1 := by rw [hw1]; exact below_alloc _ _
  have b2 : Below w1.heap.size w1 w2 := by rw [hw2]; exact below_alloc _ _
  have b3 : Below w2.heap.size w2 w3 := by rw [hw3]; exact below_alloc _ _
  have s1 : w1.heap.size = w.heap.size + 1 := by rw [hw1]; simp
  have s2 : w2.heap.size = w.heap.size + 2 := by rw [hw2]; simp; omega
  have s3 : w3.heap.size = w.heap.size + 3 := by rw [hw3]; simp; omega
  have hT0 : TwinR w2 w.heap.size k r c q w3 none 0 0 (fun _ => none) (fun _ => 0) F := by
    refine ⟨?_, World.ownsRow_nil _ _ _ _, fun j hj => absurd hj (Nat.not_lt_zero j), ?_, by show _ ≤ _; omega⟩
    · show Blk _ _ _ _
      rw [hw3, ← s2]; exact blk_new w2 27 _
    · rw [← s2]; exact b3
  have HT0 : Hid (TwinR w2 w.heap.size k r c q w3 none 0 0 (fun _ => none) (fun _ => 0) F) := hT0
  have HX1 : Hid (w2.cell? ⟨w.heap.size, 4, none⟩ = some (.slice lo n cl)) := (img_held hw1 b2).2.2.2.2
  have HX2 : Hid ((w2.cell? ⟨w.heap.size + 1, 0, none⟩ = some (.int .i64 0) ∧ w2.cell? ⟨w.heap.size + 1, 1, none⟩ = some (.int .i64 0) ∧ w2.cell? ⟨w.heap.size + 1, 2, none⟩ = some (.int .i64 0) ∧ w2.cell? ⟨w.heap.size + 1, 3, none⟩ = some (.int .i64 0) ∧ w2.cell? ⟨w.heap.size + 1, 4, none⟩ = some (.slice none 0 0)) ∧ ∀ i, w2.frozen? ⟨w.heap.size + 1, i, none⟩ = false) := by
    rw [← s1]; exact ⟨img_held hw2 (Below.refl _ _), blk_free hw2 (Below.refl _ _)⟩
  have HB2 : Hid (Below w.heap.size w w2) := below_then b1 b2
  clear hl hF hT0 b1 b2 b3
  go_enter Try.func20, Try.ntmps20
  go_wp2_with fail
  rw [← hw1, ← hw2, ← hw3]
  clear hw1 hw2 hw3
  go_loopw [4] (fun x wr => ∃ (i : Nat) (ao : Option Addr) (cap : Nat) (A' : Nat → Option Addr) (C' : Nat → Nat), i ≤ n ∧ x = .int .i64 i ∧ TwinR w2 w.heap.size k r c q wr ao i cap A' C' F) (fun x _ => n - (intOf x).toNat)
  case atStart => exact ⟨0, none, 0, _, _, Nat.zero_le _, rfl, HT0.out⟩
  case round =>
    obtain ⟨i, ao, cap, A', C', hi, rfl, HBK, HOW, HSL, HBR, hW0⟩ := hrel
    have z1 : wr.cell? ⟨w.heap.size, 4, none⟩ = some (.slice lo n cl) := (HBR.out.cell (by show w.heap.size < _; omega)).trans HX1.out
    have hw0n := hW0.out
    by_cases hlt : i < n
    · have hlw := HL.out.below HB2.out
      obtain ⟨b, off, rfl, hc⟩ := hlw.at_ (by omega)
      have hcb := hc i hlt
      have hbb : b < w.heap.size := by
        obtain ⟨b', off', e, hc2⟩ := HL.out.at_ (by omega)
        cases e
        exact World.block_lt_of_cell? w _ (hc2 i hlt)
      have z2 : wr.cell? ⟨b, off + i, none⟩ = some (.slice (A i) (F i).length (C i)) := (HBR.out.cell (by show b < _; omega)).trans hcb
      have z3 : wr.cell? ⟨w.heap.size + 2, 4, none⟩ = some (.slice ao i cap) := HBK.out.cell rfl
      have HAO : Hid (∀ a, ao = some a → w.heap.size + 3 ≤ a.block) := fun a ha => (HOW.out.lt a.block (by subst ha; rfl)).1
      have HBW : Hid (Below w.heap.size w wr) := HB2.out.trans (HBR.out.mono (by omega))
      have HRD : Hid (RdB wr.drew (A i) (F i)) := (HL.out.rd i hlt).below (below_then HBW.out (below_drew _ _))
      have HNI : Hid (A i = none → F i = [] ∧ C i = 0) := HL.out.nil i hlt
      have HFI : Hid ((F i).length ≤ 140737488355328) := HF.out i hlt
      obtain ⟨XS, hXS⟩ : ∃ XS, XS = svs A' C' F i := ⟨_, rfl⟩
      have HXS : Hid (XS = svs A' C' F i) := hXS
      have i1 : (0 : Int) ≤ (i : Int) := by omega
      have i2 : (i : Int) < (n : Int) := by omega
      clear hc hcb hlw hXS HBW
      go_wp2_with fail
      refine wp_region_held_drew (S := fun v => v.cell? ⟨w.heap.size, 4, none⟩ = some (.slice (some ⟨b, off, none⟩) n cl) ∧ v.cell? ⟨b, off + i, none⟩ = some (.slice (A i) (F i).length (C i))) (by kernel_rfl) ⟨z1, z2⟩ (fun hHeld => ?_)
      refine wpAnyH_take (i := 0) (oi := _) (v := .pointer (some ⟨w.heap.size + 2, 4, none⟩)) rfl (by kernel_rfl) (by kernel_rfl) (by kernel_rfl) (fun _ _ _ h => h) (Or.inl ⟨by rfl, ?_⟩) (by assumption) ?_
      · intro w' hSw
        try dsimp only at hSw
        go_simp <;> first | with_reducible rfl | assumption
      simp only [Act.put]
      refine wpAnyH_take (i := 2) (oi := _) (v := .slice none 0 0) rfl (by kernel_rfl) (by kernel_rfl) (by kernel_rfl) (fun _ _ _ h => h) (Or.inl ⟨by rfl, ?_⟩) (by assumption) ?_
      · intro w' hSw
        try dsimp only at hSw
        go_simp <;> first | with_reducible rfl | assumption
      simp only [Act.put]
      refine wpAnyH_take (i := 3) (oi := _) (v := .pointer (some ⟨w.heap.size, 4, none⟩)) rfl (by kernel_rfl) (by kernel_rfl) (by kernel_rfl) (fun _ _ _ h => h) (Or.inl ⟨by rfl, ?_⟩) (by assumption) ?_
      · intro w' hSw
        try dsimp only at hSw
        go_simp <;> first | with_reducible rfl | assumption
      simp only [Act.put]
      refine wpAnyH_take (i := 4) (oi := _) (v := .slice (some ⟨b, off, none⟩) n cl) rfl (by kernel_rfl) (by kernel_rfl) (by kernel_rfl) (fun _ _ _ h => h) (Or.inl ⟨by rfl, ?_⟩) (by assumption) ?_
      · intro w' hSw
        try dsimp only at hSw
        go_simp <;> first | with_reducible rfl | assumption
      simp only [Act.put]
      refine wpAnyH_take (i := 5) (oi := _) (v := .int .i64 (i : Int)) rfl (by kernel_rfl) (by kernel_rfl) (by kernel_rfl) (fun _ _ _ h => h) (Or.inl ⟨by rfl, ?_⟩) (by assumption) ?_
      · intro w' hSw
        try dsimp only at hSw
        go_simp <;> first | with_reducible rfl | assumption
      simp only [Act.put]
      refine wpAnyH_take (i := 6) (oi := _) (v := .pointer (some ⟨b, off + i, none⟩)) rfl (by kernel_rfl) (by kernel_rfl) (by kernel_rfl) (fun _ _ _ h => h) (Or.inl ⟨by rfl, ?_⟩) (by assumption) ?_
      · intro w' hSw
        try dsimp only at hSw
        go_simp <;> first | with_reducible rfl | assumption
      simp only [Act.put]
      refine wpAnyH_take (i := 7) (oi := _) (v := .slice (A i) (F i).length (C i)) rfl (by kernel_rfl) (by kernel_rfl) (by kernel_rfl) (fun _ _ _ h => h) (Or.inl ⟨by rfl, ?_⟩) (by assumption) ?_
      · intro w' hSw
        try dsimp only at hSw
        go_simp <;> first | with_reducible rfl | assumption
      simp only [Act.put]
      refine wpAnyH_ready (rs := [1, 8]) (by kernel_rfl) (by simp) ?_
      refine AllReadyH.cons (o := _) rfl (fun K hK => ?_) (AllReadyH.cons (o := _) rfl (fun K hK => ?_) AllReadyH.nil)
      · go_simp
        refine hK.out _ _ ⟨z1, z2⟩ (fun hHeld => ?_)
        clear hK K
        try simp only [Act.put]
        refine wpAnyH_ready (rs := [8]) (by kernel_rfl) (by simp) ?_
        refine AllReadyH.cons (o := _) rfl (fun K hK => ?_) AllReadyH.nil
        refine step_app (by rfl) (.tmp 18) (.tmp 23) (by rfl) (by simp [Act.eval]) (A i) (F i).length (C i) (F i) (by simp [Act.eval]) rfl HRD.out HNI.out HFI.out ?_
        rintro an cn wb ⟨hb1, hb2, hb3, hb5⟩
        have HR1 : Hid (RdB wb an (F i)) := hb1
        have HR2 : Hid (∀ a, an = some a → wr.heap.size ≤ a.block ∧ a.block < wb.heap.size) := hb2
        have HR3 : Hid (an = none → F i = [] ∧ cn = 0) := hb3
        have HBB : Hid (Below wr.heap.size wr wb) := of_drew hb5
        have p1 := held z1 (of_drew hb5)
        have p2 := held z2 (of_drew hb5)
        have p3 := held z3 (of_drew hb5)
        have y1 := fun o => held p1 (below_alloc wb o)
        have y2 := fun o => held p2 (below_alloc wb o)
        have y3 := fun o => held p3 (below_alloc wb o)
        have hzb := (of_drew hb5).size
        have HOB : Hid (∀ o, (wb.alloc o).ownsRow (w.heap.size + 3) 33 1 (.slice ao i cap) i XS) := fun o => by
          rw [HXS.out]
          exact (owns_stay HOW.out (fun g hg hl => (of_drew hb5).block g hl)).alloc o
        clear hb1 hb2 hb3 hb5
        refine hK.out _ _ ⟨p1, p2⟩ (fun hHeld => ?_)
        clear hK K
        try simp only [Act.put]
        refine wpAnyH_ready (rs := [9]) (by kernel_rfl) (by simp) ?_
        refine AllReadyH.cons (o := _) rfl (fun K hK => ?_) AllReadyH.nil
        go_simp
        refine hK.out _ _ ⟨y1 _, y2 _⟩ (fun hHeld => ?_)
        clear hK K
        try simp only [Act.put]
        refine wpAnyH_ready (rs := [10]) (by kernel_rfl) (by simp) ?_
        refine AllReadyH.cons (o := _) rfl (fun K hK => ?_) AllReadyH.nil
        refine Go.step_append_lies _ (by rfl) (.tmp 17) (.tmp 25) 25 (by rfl) (w.heap.size + 3) 33 i0 (.slice none 0 0) 1 24 Try.underlying25 hin hz0 hz1 hz2 (by rfl) (by decide) (.slice ao i cap) i XS (by simp [Act.eval]) (HOB.out _) ⟨wb.heap.size, 0, none⟩ 1 1 [.slice an (F i).length cn] (by simp [Act.eval]) (by rfl) (World.news_of_block (heap_alloc_new wb _)) (by simp [Value.oneCell']) (by decide) (by unfold maxLen; omega) (by omega) (by simp; omega) (wb.heap.size + 1) (by simp) ?_
        intro g2 cap2 w2 hown2 hgrow2 hwh2 hlt2
        have HO2 : Hid (w2.ownsRow (w.heap.size + 3) 33 1 (.slice (some ⟨g2, 0, none⟩) (i + 1) cap2) (i + 1) (XS ++ [.slice an (F i).length cn])) := hown2
        have HG2 : Hid (∀ x, x < wb.heap.size → (∀ a, ao = some a → x ≠ a.block) → w2.heap[x]? = wb.heap[x]?) := fun x hx hne => (hgrow2.block x (by simp; omega) (fun e => by cases ao with | none => cases e | some a => cases e; exact hne _ rfl rfl)).trans (Below.heap_alloc _ _ _ hx)
        have HW2 : Hid ((∃ a, ao = some a ∧ a.block = g2) ∨ g2 = wb.heap.size + 1) := by
          rcases hwh2 with e | e
          · cases ao with
            | none => cases e
            | some a => exact .inl ⟨a, rfl, Option.some.inj e⟩
          · exact .inr e
        have hz2b : wb.heap.size + 1 ≤ w2.heap.size := by have := hgrow2.size; simp at this; omega
        have hFr : Hid (w2.os = wb.os ∧ w2.tape = wb.tape ∧ w2.output = wb.output) := ⟨hgrow2.os, hgrow2.tape, hgrow2.output⟩
        have gw : ∀ x, x < w.heap.size + 3 → w2.heap[x]? = wb.heap[x]? := fun x hx => HG2.out x (by omega) (fun a ha e => by have := HAO.out a ha; omega)
        have o1 : w2.cell? ⟨w.heap.size, 4, none⟩ = some (.slice (some ⟨b, off, none⟩) n cl) := (World.cell?_of_block (gw w.heap.size (by omega))).trans p1
        have o2 : w2.cell? ⟨b, off + i, none⟩ = some (.slice (A i) (F i).length (C i)) := (World.cell?_of_block (gw b (by omega))).trans p2
        have o3 : w2.cell? ⟨w.heap.size + 2, 4, none⟩ = some (.slice ao i cap) := (World.cell?_of_block (gw (w.heap.size + 2) (by omega))).trans p3
        have o4 : w2.frozen? ⟨w.heap.size + 2, 4, none⟩ = false := by
          rw [World.frozen?_of_block (gw (w.heap.size + 2) (by omega)), World.frozen?_of_block (HBB.out.block (w.heap.size + 2) (by omega))]
          exact HBK.out.free 4
        have o5 : ∀ v, (w2.setCell ⟨w.heap.size + 2, 4, none⟩ v).cell? ⟨w.heap.size, 4, none⟩ = some (.slice (some ⟨b, off, none⟩) n cl) := fun v => set_cell o1 (by show w.heap.size ≠ w.heap.size + 2; omega) v
        have o6 : ∀ v, (w2.setCell ⟨w.heap.size + 2, 4, none⟩ v).cell? ⟨b, off + i, none⟩ = some (.slice (A i) (F i).length (C i)) := fun v => set_cell o2 (by show b ≠ w.heap.size + 2; omega) v
        clear hown2 hgrow2 hwh2
        refine hK.out _ _ ⟨o1, o2⟩ (fun hHeld => ?_)
        clear hK K
        try simp only [Act.put]
        refine wpAnyH_take (i := 11) (oi := _) (v := .pointer (some ⟨w.heap.size + 2, 4, none⟩)) rfl (by kernel_rfl) (by kernel_rfl) (by kernel_rfl) (fun _ _ _ h => h) (Or.inl ⟨by rfl, ?_⟩) (by assumption) ?_
        · intro w' hSw
          try dsimp only at hSw
          go_simp <;> first | with_reducible rfl | assumption
        simp only [Act.put]
        refine wpAnyH_ready (rs := [12]) (by kernel_rfl) (by simp) ?_
        refine AllReadyH.cons (o := _) rfl (fun K hK => ?_) AllReadyH.nil
        go_simp
        refine hK.out _ _ ⟨o5 _, o6 _⟩ (fun hHeld => ?_)
        clear hK K
        try simp only [Act.put]
        refine wpAnyH_done (by kernel_rfl) ?_ _
        go_wp2_with fail
        go_roundw
        case rel => exact ⟨i + 1, some ⟨g2, 0, none⟩, cap2, upd i an A', upd i cn C', by omega, by go_num, twin_step HXS.out HAO.out hW0.out HBK.out HOW.out HSL.out HBR.out HBB.out HR1.out HR2.out HR3.out HO2.out HG2.out HW2.out hz2b hFr.out⟩
        case measure => simp [intOf]; omega
      · refine step_app (by rfl) (.tmp 18) (.tmp 23) (by rfl) (by simp [Act.eval]) (A i) (F i).length (C i) (F i) (by simp [Act.eval]) rfl HRD.out HNI.out HFI.out ?_
        rintro an cn wb ⟨hb1, hb2, hb3, hb5⟩
        have HR1 : Hid (RdB wb an (F i)) := hb1
        have HR2 : Hid (∀ a, an = some a → wr.heap.size ≤ a.block ∧ a.block < wb.heap.size) := hb2
        have HR3 : Hid (an = none → F i = [] ∧ cn = 0) := hb3
        have HBB : Hid (Below wr.heap.size wr wb) := of_drew hb5
        have p1 := held z1 (of_drew hb5)
        have p2 := held z2 (of_drew hb5)
        have p3 := held z3 (of_drew hb5)
        have y1 := fun o => held p1 (below_alloc wb o)
        have y2 := fun o => held p2 (below_alloc wb o)
        have y3 := fun o => held p3 (below_alloc wb o)
        have hzb := (of_drew hb5).size
        have HOB : Hid (∀ o, (wb.alloc o).ownsRow (w.heap.size + 3) 33 1 (.slice ao i cap) i XS) := fun o => by
          rw [HXS.out]
          exact (owns_stay HOW.out (fun g hg hl => (of_drew hb5).block g hl)).alloc o
        clear hb1 hb2 hb3 hb5
        refine hK.out _ _ ⟨p1, p2⟩ (fun hHeld => ?_)
        clear hK K
        try simp only [Act.put]
        refine wpAnyH_ready (rs := [1, 9]) (by kernel_rfl) (by simp) ?_
        refine AllReadyH.cons (o := _) rfl (fun K hK => ?_) (AllReadyH.cons (o := _) rfl (fun K hK => ?_) AllReadyH.nil)
        · go_simp
          refine hK.out _ _ ⟨p1, p2⟩ (fun hHeld => ?_)
          clear hK K
          try simp only [Act.put]
          refine wpAnyH_ready (rs := [9]) (by kernel_rfl) (by simp) ?_
          refine AllReadyH.cons (o := _) rfl (fun K hK => ?_) AllReadyH.nil
          go_simp
          refine hK.out _ _ ⟨y1 _, y2 _⟩ (fun hHeld => ?_)
          clear hK K
          try simp only [Act.put]
          refine wpAnyH_ready (rs := [10]) (by kernel_rfl) (by simp) ?_
          refine AllReadyH.cons (o := _) rfl (fun K hK => ?_) AllReadyH.nil
          refine Go.step_append_lies _ (by rfl) (.tmp 17) (.tmp 25) 25 (by rfl) (w.heap.size + 3) 33 i0 (.slice none 0 0) 1 24 Try.underlying25 hin hz0 hz1 hz2 (by rfl) (by decide) (.slice ao i cap) i XS (by simp [Act.eval]) (HOB.out _) ⟨wb.heap.size, 0, none⟩ 1 1 [.slice an (F i).length cn] (by simp [Act.eval]) (by rfl) (World.news_of_block (heap_alloc_new wb _)) (by simp [Value.oneCell']) (by decide) (by unfold maxLen; omega) (by omega) (by simp; omega) (wb.heap.size + 1) (by simp) ?_
          intro g2 cap2 w2 hown2 hgrow2 hwh2 hlt2
          have HO2 : Hid (w2.ownsRow (w.heap.size + 3) 33 1 (.slice (some ⟨g2, 0, none⟩) (i + 1) cap2) (i + 1) (XS ++ [.slice an (F i).length cn])) := hown2
          have HG2 : Hid (∀ x, x < wb.heap.size → (∀ a, ao = some a → x ≠ a.block) → w2.heap[x]? = wb.heap[x]?) := fun x hx hne => (hgrow2.block x (by simp; omega) (fun e => by cases ao with | none => cases e | some a => cases e; exact hne _ rfl rfl)).trans (Below.heap_alloc _ _ _ hx)
          have HW2 : Hid ((∃ a, ao = some a ∧ a.block = g2) ∨ g2 = wb.heap.size + 1) := by
            rcases hwh2 with e | e
            · cases ao with
              | none => cases e
              | some a => exact .inl ⟨a, rfl, Option.some.inj e⟩
            · exact .inr e
          have hz2b : wb.heap.size + 1 ≤ w2.heap.size := by have := hgrow2.size; simp at this; omega
          have hFr : Hid (w2.os = wb.os ∧ w2.tape = wb.tape ∧ w2.output = wb.output) := ⟨hgrow2.os, hgrow2.tape, hgrow2.output⟩
          have gw : ∀ x, x < w.heap.size + 3 → w2.heap[x]? = wb.heap[x]? := fun x hx => HG2.out x (by omega) (fun a ha e => by have := HAO.out a ha; omega)
          have o1 : w2.cell? ⟨w.heap.size, 4, none⟩ = some (.slice (some ⟨b, off, none⟩) n cl) := (World.cell?_of_block (gw w.heap.size (by omega))).trans p1
          have o2 : w2.cell? ⟨b, off + i, none⟩ = some (.slice (A i) (F i).length (C i)) := (World.cell?_of_block (gw b (by omega))).trans p2
          have o3 : w2.cell? ⟨w.heap.size + 2, 4, none⟩ = some (.slice ao i cap) := (World.cell?_of_block (gw (w.heap.size + 2) (by omega))).trans p3
          have o4 : w2.frozen? ⟨w.heap.size + 2, 4, none⟩ = false := by
            rw [World.frozen?_of_block (gw (w.heap.size + 2) (by omega)), World.frozen?_of_block (HBB.out.block (w.heap.size + 2) (by omega))]
            exact HBK.out.free 4
          have o5 : ∀ v, (w2.setCell ⟨w.heap.size + 2, 4, none⟩ v).cell? ⟨w.heap.size, 4, none⟩ = some (.slice (some ⟨b, off, none⟩) n cl) := fun v => set_cell o1 (by show w.heap.size ≠ w.heap.size + 2; omega) v
          have o6 : ∀ v, (w2.setCell ⟨w.heap.size + 2, 4, none⟩ v).cell? ⟨b, off + i, none⟩ = some (.slice (A i) (F i).length (C i)) := fun v => set_cell o2 (by show b ≠ w.heap.size + 2; omega) v
          clear hown2 hgrow2 hwh2
          refine hK.out _ _ ⟨o1, o2⟩ (fun hHeld => ?_)
          clear hK K
          try simp only [Act.put]
          refine wpAnyH_take (i := 11) (oi := _) (v := .pointer (some ⟨w.heap.size + 2, 4, none⟩)) rfl (by kernel_rfl) (by kernel_rfl) (by kernel_rfl) (fun _ _ _ h => h) (Or.inl ⟨by rfl, ?_⟩) (by assumption) ?_
          · intro w' hSw
            try dsimp only at hSw
            go_simp <;> first | with_reducible rfl | assumption
          simp only [Act.put]
          refine wpAnyH_ready (rs := [12]) (by kernel_rfl) (by simp) ?_
          refine AllReadyH.cons (o := _) rfl (fun K hK => ?_) AllReadyH.nil
          go_simp
          refine hK.out _ _ ⟨o5 _, o6 _⟩ (fun hHeld => ?_)
          clear hK K
          try simp only [Act.put]
          refine wpAnyH_done (by kernel_rfl) ?_ _
          go_wp2_with fail
          go_roundw
          case rel => exact ⟨i + 1, some ⟨g2, 0, none⟩, cap2, upd i an A', upd i cn C', by omega, by go_num, twin_step HXS.out HAO.out hW0.out HBK.out HOW.out HSL.out HBR.out HBB.out HR1.out HR2.out HR3.out HO2.out HG2.out HW2.out hz2b hFr.out⟩
          case measure => simp [intOf]; omega
        · go_simp
          refine hK.out _ _ ⟨y1 _, y2 _⟩ (fun hHeld => ?_)
          clear hK K
          try simp only [Act.put]
          refine wpAnyH_ready (rs := [1]) (by kernel_rfl) (by simp) ?_
          refine AllReadyH.cons (o := _) rfl (fun K hK => ?_) AllReadyH.nil
          go_simp
          refine hK.out _ _ ⟨y1 _, y2 _⟩ (fun hHeld => ?_)
          clear hK K
          try simp only [Act.put]
          refine wpAnyH_ready (rs := [10]) (by kernel_rfl) (by simp) ?_
          refine AllReadyH.cons (o := _) rfl (fun K hK => ?_) AllReadyH.nil
          refine Go.step_append_lies _ (by rfl) (.tmp 17) (.tmp 25) 25 (by rfl) (w.heap.size + 3) 33 i0 (.slice none 0 0) 1 24 Try.underlying25 hin hz0 hz1 hz2 (by rfl) (by decide) (.slice ao i cap) i XS (by simp [Act.eval]) (HOB.out _) ⟨wb.heap.size, 0, none⟩ 1 1 [.slice an (F i).length cn] (by simp [Act.eval]) (by rfl) (World.news_of_block (heap_alloc_new wb _)) (by simp [Value.oneCell']) (by decide) (by unfold maxLen; omega) (by omega) (by simp; omega) (wb.heap.size + 1) (by simp) ?_
          intro g2 cap2 w2 hown2 hgrow2 hwh2 hlt2
          have HO2 : Hid (w2.ownsRow (w.heap.size + 3) 33 1 (.slice (some ⟨g2, 0, none⟩) (i + 1) cap2) (i + 1) (XS ++ [.slice an (F i).length cn])) := hown2
          have HG2 : Hid (∀ x, x < wb.heap.size → (∀ a, ao = some a → x ≠ a.block) → w2.heap[x]? = wb.heap[x]?) := fun x hx hne => (hgrow2.block x (by simp; omega) (fun e => by cases ao with | none => cases e | some a => cases e; exact hne _ rfl rfl)).trans (Below.heap_alloc _ _ _ hx)
          have HW2 : Hid ((∃ a, ao = some a ∧ a.block = g2) ∨ g2 = wb.heap.size + 1) := by
            rcases hwh2 with e | e
            · cases ao with
              | none => cases e
              | some a => exact .inl ⟨a, rfl, Option.some.inj e⟩
            · exact .inr e
          have hz2b : wb.heap.size + 1 ≤ w2.heap.size := by have := hgrow2.size; simp at this; omega
          have hFr : Hid (w2.os = wb.os ∧ w2.tape = wb.tape ∧ w2.output = wb.output) := ⟨hgrow2.os, hgrow2.tape, hgrow2.output⟩
          have gw : ∀ x, x < w.heap.size + 3 → w2.heap[x]? = wb.heap[x]? := fun x hx => HG2.out x (by omega) (fun a ha e => by have := HAO.out a ha; omega)
          have o1 : w2.cell? ⟨w.heap.size, 4, none⟩ = some (.slice (some ⟨b, off, none⟩) n cl) := (World.cell?_of_block (gw w.heap.size (by omega))).trans p1
          have o2 : w2.cell? ⟨b, off + i, none⟩ = some (.slice (A i) (F i).length (C i)) := (World.cell?_of_block (gw b (by omega))).trans p2
          have o3 : w2.cell? ⟨w.heap.size + 2, 4, none⟩ = some (.slice ao i cap) := (World.cell?_of_block (gw (w.heap.size + 2) (by omega))).trans p3
          have o4 : w2.frozen? ⟨w.heap.size + 2, 4, none⟩ = false := by
            rw [World.frozen?_of_block (gw (w.heap.size + 2) (by omega)), World.frozen?_of_block (HBB.out.block (w.heap.size + 2) (by omega))]
            exact HBK.out.free 4
          have o5 : ∀ v, (w2.setCell ⟨w.heap.size + 2, 4, none⟩ v).cell? ⟨w.heap.size, 4, none⟩ = some (.slice (some ⟨b, off, none⟩) n cl) := fun v => set_cell o1 (by show w.heap.size ≠ w.heap.size + 2; omega) v
          have o6 : ∀ v, (w2.setCell ⟨w.heap.size + 2, 4, none⟩ v).cell? ⟨b, off + i, none⟩ = some (.slice (A i) (F i).length (C i)) := fun v => set_cell o2 (by show b ≠ w.heap.size + 2; omega) v
          clear hown2 hgrow2 hwh2
          refine hK.out _ _ ⟨o1, o2⟩ (fun hHeld => ?_)
          clear hK K
          try simp only [Act.put]
          refine wpAnyH_take (i := 11) (oi := _) (v := .pointer (some ⟨w.heap.size + 2, 4, none⟩)) rfl (by kernel_rfl) (by kernel_rfl) (by kernel_rfl) (fun _ _ _ h => h) (Or.inl ⟨by rfl, ?_⟩) (by assumption) ?_
          · intro w' hSw
            try dsimp only at hSw
            go_simp <;> first | with_reducible rfl | assumption
          simp only [Act.put]
          refine wpAnyH_ready (rs := [12]) (by kernel_rfl) (by simp) ?_
          refine AllReadyH.cons (o := _) rfl (fun K hK => ?_) AllReadyH.nil
          go_simp
          refine hK.out _ _ ⟨o5 _, o6 _⟩ (fun hHeld => ?_)
          clear hK K
          try simp only [Act.put]
          refine wpAnyH_done (by kernel_rfl) ?_ _
          go_wp2_with fail
          go_roundw
          case rel => exact ⟨i + 1, some ⟨g2, 0, none⟩, cap2, upd i an A', upd i cn C', by omega, by go_num, twin_step HXS.out HAO.out hW0.out HBK.out HOW.out HSL.out HBR.out HBB.out HR1.out HR2.out HR3.out HO2.out HG2.out HW2.out hz2b hFr.out⟩
          case measure => simp [intOf]; omega
    · obtain rfl : i = n := by omega
      obtain ⟨c0, c1, c2, c3, c4⟩ : wr.cell? ⟨w.heap.size + 2, 0, none⟩ = some (.int .i64 k) ∧ wr.cell? ⟨w.heap.size + 2, 1, none⟩ = some (.int .i64 r) ∧ wr.cell? ⟨w.heap.size + 2, 2, none⟩ = some (.int .i64 c) ∧ wr.cell? ⟨w.heap.size + 2, 3, none⟩ = some (.int .i64 q) ∧ wr.cell? ⟨w.heap.size + 2, 4, none⟩ = some (.slice ao i cap) := ⟨HBK.out.cell rfl, HBK.out.cell rfl, HBK.out.cell rfl, HBK.out.cell rfl, HBK.out.cell rfl⟩
      have hcl : ∀ o v, w2.cell? ⟨w.heap.size + 1, o, none⟩ = some v → wr.cell? ⟨w.heap.size + 1, o, none⟩ = some v := fun o v h => (HBR.out.cell (by show w.heap.size + 1 < _; omega)).trans h
      have d0 := hcl 0 _ HX2.out.1.1
      have d1 := hcl 1 _ HX2.out.1.2.1
      have d2 := hcl 2 _ HX2.out.1.2.2.1
      have d3 := hcl 3 _ HX2.out.1.2.2.2.1
      have d4 := hcl 4 _ HX2.out.1.2.2.2.2
      have f : ∀ o, wr.frozen? ⟨w.heap.size + 1, o, none⟩ = false := fun o => (HBR.out.frozen (by show w.heap.size + 1 < _; omega)).trans (HX2.out.2 o)
      clear hcl
      go_wp2_with fail
      refine bodyPost_ret (v := .agg #[.int .i64 k, .int .i64 r, .int .i64 c, .int .i64 q, .slice ao i cap]) (by simp [results, Try.results20, go_sem, d0, d1, d2, d3, d4]) rfl ?_
      have HX : Only (fun x => x = w.heap.size + 1) wr (((((wr.setCell ⟨w.heap.size + 1, 0, none⟩ (.int .i64 k)).setCell ⟨w.heap.size + 1, 1, none⟩ (.int .i64 r)).setCell ⟨w.heap.size + 1, 2, none⟩ (.int .i64 c)).setCell ⟨w.heap.size + 1, 3, none⟩ (.int .i64 q)).setCell ⟨w.heap.size + 1, 4, none⟩ (.slice ao i cap)) :=
        only5 wr _ _ _ _ _ _
      have hst : ∀ x, w.heap.size + 3 ≤ x → x < wr.heap.size → (((((wr.setCell ⟨w.heap.size + 1, 0, none⟩ (.int .i64 k)).setCell ⟨w.heap.size + 1, 1, none⟩ (.int .i64 r)).setCell ⟨w.heap.size + 1, 2, none⟩ (.int .i64 c)).setCell ⟨w.heap.size + 1, 3, none⟩ (.int .i64 q)).setCell ⟨w.heap.size + 1, 4, none⟩ (.slice ao i cap)).heap[x]? = wr.heap[x]? := fun x h1 h2 => HX.block x h2 (by omega)
      refine ⟨ao, cap, A', C', rfl, owns_stay HOW.out hst, fun j hj => ?_, ?_⟩
      · obtain ⟨q1, q2, q3, q4⟩ := HSL.out j hj
        have hq : ∀ a, A' j = some a → _ := fun a ha => hst a.block (q2 a ha).1 (q2 a ha).2.1
        exact ⟨rdb_stay q1 hq, fun a ha => ⟨(q2 a ha).1, Nat.lt_of_lt_of_le (q2 a ha).2.1 HX.size, (q2 a ha).2.2⟩, q3, (fun h => by cases h)⟩
      · exact (HB2.out.trans (HBR.out.mono (by omega))).trans (HX.below (fun x hx => by omega) (by omega))
end Go.Proofs.Ytenlfhdchflnjaa
