import Derived.Laws.CopyOwn
import Derived.Deep.DeepMust
import Derived.Test.YtdmpiipllmjloaaGreatPj3
import Derived.Test.YtdmpiipllmjloaaGreatPj22
namespace Go.Proofs.YtdmpiipllmjloaaGreat
open Go.RowKit
def Ans (w : World) (E : Int) (n : Nat) (F : Nat -> Int) (e : Ending) (w' : World) : Prop :=
  ∃ ao cap, e = .returned (.tuple #[.slice ao (lenE E n) cap, .int .i64 E]) /\ Own w.heap.size w' ao (lenE E n) cap F /\ Below w.heap.size w w'
theorem upto16 {n : Nat} (h : n <= 16) : n = 0 \/ n = 1 \/ n = 2 \/ n = 3 \/ n = 4 \/ n = 5 \/ n = 6 \/ n = 7 \/ n = 8 \/ n = 9 \/ n = 10 \/ n = 11 \/ n = 12 \/ n = 13 \/ n = 14 \/ n = 15 \/ n = 16 := by omega
set_option maxHeartbeats 1000000 in
set_option maxRecDepth 100000 in
theorem mul64_one (w : World) (n : Nat) (hn : n <= 16) : Calls Tryz.prog 125 #[.int .u64 1, .int .u64 (n : Int)] w fun e w' => e = .returned (.tuple #[.int .u64 0, .int .u64 (n : Int)]) /\ w' = w := by
  go_enter Tryz.func125, Tryz.ntmps125
  go_wp2
  go_ret2
  refine ⟨?_, rfl⟩
  rcases upto16 hn with rfl | rfl | rfl | rfl | rfl | rfl | rfl | rfl | rfl | rfl | rfl | rfl | rfl | rfl | rfl | rfl | rfl
  all_goals rfl
set_option maxHeartbeats 1000000 in
set_option maxRecDepth 100000 in
theorem mul_one (w : World) (n : Nat) (hn : n <= 16) : Calls Tryz.prog 101 #[.int .u64 1, .int .u64 (n : Int)] w fun e w' => e = .returned (.tuple #[.int .u64 0, .int .u64 (n : Int)]) /\ w' = w := by
  have HM := fun w => mul64_one w n hn
  go_enter Tryz.func101, Tryz.ntmps101
  go_wp2_with fail
  refine (HM _).mono ?_
  rintro e w' ⟨rfl, rfl⟩
  go_wp2_with fail
  go_ret2
  exact ⟨rfl, rfl⟩
def fil (v : Int) (N j : Nat) : List Value := List.replicate j (.int .i64 v) ++ List.replicate (N - j) (.int .i64 0)
theorem fil_length {v : Int} {N j : Nat} (h : j <= N) : (fil v N j).length = N := by unfold fil; simp; omega
theorem fil_get {v : Int} {N j i : Nat} (h : i < j) : (fil v N j)[i]? = some (.int .i64 v) := by
  unfold fil; rw [List.getElem?_append_left (by simpa using h), List.getElem?_replicate, if_pos h]
theorem fil_splice {v : Int} {N j c : Nat} (h : j + c <= N) : splice (fil v N j) j (List.replicate c (.int .i64 v)) = fil v N (j + c) := by
  unfold splice
  apply List.ext_getElem?
  intro i
  have e1 : ((fil v N j).take j).length = j := by rw [List.length_take, fil_length (by omega)]; omega
  by_cases h1 : i < j
  · rw [List.getElem?_append_left (by omega), List.getElem?_take_of_lt h1, fil_get h1, fil_get (by omega)]
  · rw [List.getElem?_append_right (by omega), e1]
    by_cases h2 : i < j + c
    · rw [List.getElem?_append_left (by simp; omega), List.getElem?_replicate, if_pos (by omega), fil_get h2]
    · rw [List.getElem?_append_right (by simp; omega), List.getElem?_drop, List.length_replicate]
      have : j + c + (i - j - c) = i := by omega
      rw [this]
      unfold fil
      rw [List.getElem?_append_right (by simp; omega), List.getElem?_append_right (by simp; omega), List.length_replicate, List.length_replicate, List.getElem?_replicate, List.getElem?_replicate]
      by_cases h3 : i < N
      · rw [if_pos (by omega), if_pos (by omega)]
      · rw [if_neg (by omega), if_neg (by omega)]
theorem fil_made (v : Int) (N : Nat) : madeCells #[.int .i64 0] N = (fil v N 0).toArray := by
  apply Array.ext'
  rw [toList_madeCells_one]
  simp [fil]
theorem own_fil {w : World} {B g N : Nat} {v : Int} (h : w.heap[g]? = some (.cells (fil v N N).toArray 3 (0, 0))) (hB : B <= g) (hN : N <= 16) : Own B w (some ⟨g, 0, none⟩) N N (fun _ => v) := by
  refine own_row (f := fun _ => .int .i64 v) ⟨_, h, by simp [fil], fun i hi => ?_⟩ hB (by omega) (fun _ _ => rfl)
  have := fil_get (v := v) (N := N) hi
  simpa using this
set_option maxHeartbeats 1000000 in
set_option maxRecDepth 100000 in
theorem repeat_any (w : World) (gx n : Nat) (v : Int) (hn : n <= 16) (h1 : 1 <= n) (hx : w.cell? ⟨gx, 0, none⟩ = some (.int .i64 v)) :
    Calls Tryz.prog 72 #[.slice (some ⟨gx, 0, none⟩) 1 1, .int .i64 (n : Int)] w fun e w' => ∃ g cap, e = .returned (.slice (some ⟨g, 0, none⟩) n cap) /\ Own w.heap.size w' (some ⟨g, 0, none⟩) n cap (fun _ => v) /\ Below w.heap.size w w' := by
  have HM := fun w => mul_one w n hn
  have hm := run_make_row' (P := Tryz.prog) 38 3 (.int .i64 0) 8 Tryz.underlying38 info3 rfl .i64 .i64 n (by omega) (by omega)
  rw [fil_made v] at hm
  have sz3 : (Tryz.prog.info? 3).map (·.size) = some 1 := by kernel_rfl
  obtain ⟨w1, hw1⟩ : ∃ w1, w1 = w.alloc (.cells (fil v n 0).toArray 3) := ⟨_, rfl⟩
  have hmw := hm w
  rw [<- hw1] at hmw
  have HG : Hid (w1.heap[w.heap.size]? = some (.cells (fil v n 0).toArray 3 (0, 0))) := by rw [hw1]; exact heap_alloc_new w _
  have HB : Hid (Below w.heap.size w w1) := by rw [hw1]; exact below_alloc _ _
  have HX : Hid (w1.cell? ⟨gx, 0, none⟩ = some (.int .i64 v)) := held hx HB.out
  clear hm hw1 hx
  have c1 : (n : Int) <= 9223372036854775807 := by omega
  go_enter Tryz.func72, Tryz.ntmps72
  go_wp2_with fail
  refine (HM _).mono ?_
  rintro e w' ⟨rfl, hw'⟩
  obtain rfl := hw'.symm
  have hX1 : Hid (∀ j u, (List.replicate 1 (Value.int .i64 v))[j]? = some u -> w1.cell? ((⟨gx, 0, none⟩ : Addr).add j) = some u) := fun j u hu => by
    have hj : j < 1 := list_lt (by simp) hu
    obtain rfl : j = 0 := by omega
    rw [Addr.add_lit]
    have e : u = .int .i64 v := by simpa using hu.symm
    rw [e]; exact HX.out
  go_wp2_with (refine wpList_copy_splice (by rfl) (.tmp 31) (.tmp 32) 38 38 (by rfl) 3 Tryz.underlying38 sz3 (some ⟨w.heap.size, 0, none⟩) (some ⟨gx, 0, none⟩) n n 1 1 (by rfl) (by rfl) w.heap.size 0 (fil v n 0) 3 HG.out (List.replicate 1 (.int .i64 v)) (by show _ = min 1 n; rw [List.length_replicate]; omega) (by intro _; exact ⟨rfl, _, rfl, hX1.out⟩) (by rw [List.length_replicate, fil_length (Nat.zero_le _)]; omega) (by intro u hu; rw [List.eq_of_mem_replicate hu]; rfl) w.heap.size w HB.out (Nat.le_refl _) ?_; intro w2 HG2 hB2)
  have HG2' : Hid (w2.heap[w.heap.size]? = some (.cells (fil v n 1).toArray 3 (0, 0))) := by
    show _ = _
    rw [HG2.out, fil_splice (show 0 + 1 <= n by omega)]
  have HB2 : Hid (Below w.heap.size w w2) := hB2
  clear HG2 hB2 HG HB HX hX1 hmw HM
  simp only [decide_eq_false (show ¬ (n : Int) < 0 by omega), decide_eq_false (show ¬ (9223372036854775807 : Int) < (n : Int) by omega)]
  clear c1
  go_loopw [8] (fun x wr => ∃ j : Nat, 1 <= j /\ j <= n /\ x = .int .i64 (j : Int) /\ Hid (wr.heap[w.heap.size]? = some (.cells (fil v n j).toArray 3 (0, 0))) /\ Hid (Below w.heap.size w wr)) (fun x _ => n - (intOf x).toNat)
  case atStart => exact ⟨1, by omega, by omega, rfl, HG2'.out, HB2.out⟩
  case round =>
    obtain ⟨j, hj1, hj2, rfl, hrow, hbel⟩ := hrel
    by_cases hlt : j < n
    · obtain ⟨c, hc1, hc2⟩ : ∃ c, c = Nat.min j (n - j) /\ 1 <= c := ⟨_, rfl, by show 1 <= min j (n - j); omega⟩
      have hc3 : j + c <= n := by have : c = min j (n - j) := hc1; omega
      have HC1 : Hid (c = Nat.min j (n - j)) := hc1
      have HSP : Hid (splice (fil v n j) j (List.replicate c (.int .i64 v)) = fil v n (j + c)) := fil_splice hc3
      have hcell : Hid (∀ i u, (List.replicate c (Value.int .i64 v))[i]? = some u -> wr.drew.cell? ((⟨w.heap.size, 0, none⟩ : Addr).add i) = some u) := fun i u hu => by
        have hi : i < c := list_lt (by simp) hu
        have hcj : c <= j := by rw [hc1]; exact Nat.min_le_left _ _
        rw [Addr.add_lit, show (wr.drew.cell? ⟨w.heap.size, 0 + i, none⟩) = wr.cell? ⟨w.heap.size, 0 + i, none⟩ from rfl, cell_of_row _ _ _ _ _ _ hrow.out]
        have e : u = .int .i64 v := by rw [List.getElem?_replicate, if_pos hi] at hu; exact (Option.some.inj hu).symm
        have := fil_get (v := v) (N := n) (show 0 + i < j by omega)
        rw [e]; simpa using this
      have hg1 : wr.drew.heap[w.heap.size]? = some (.cells (fil v n j).toArray 3 (0, 0)) := hrow.out
      have HFL : Hid ((fil v n j).length = n) := fil_length hj2
      have j1 : (0 : Int) <= (j : Int) := by omega
      have j2 : (j : Int) <= (n : Int) := by omega
      have j3 : ¬ n = j := by omega
      have HG1 : Hid (wr.drew.heap[w.heap.size]? = some (.cells (fil v n j).toArray 3 (0, 0))) := hg1
      clear hg1 hc1
      go_wp2_with fail
      have hwr : IntKind.i64.wrap ((j : Int) + (c : Int)) = (j : Int) + (c : Int) := by rw [IntKind.wrap_i64]; omega
      go_region_held3 (fun _ => True) (go_keep) ((refine step_copy_splice rfl (.tmp 41) (.tmp 44) 38 38 rfl 3 Tryz.underlying38 sz3 (some ⟨w.heap.size, j, none⟩) (some ⟨w.heap.size, 0, none⟩) (n - j) (n - j) j n (by simp [Act.eval]) (by simp [Act.eval]) w.heap.size j (fil v n j) 3 HG1.out (List.replicate c (.int .i64 v)) (by rw [List.length_replicate]; exact HC1.out) (by intro _; exact ⟨rfl, _, rfl, hcell.out⟩) (by rw [List.length_replicate, HFL.out]; exact hc3) (by intro u hu; rw [List.eq_of_mem_replicate hu]; rfl) w.heap.size w (hbel.out.drew) (Nat.le_refl _) ?_; intro w4 hg4 hb4))
      have HG5 : Hid (w4.heap[w.heap.size]? = some (.cells (fil v n (j + c)).toArray 3 (0, 0))) := by show _ = _; rw [<- HSP.out]; exact hg4.out
      have HB5 : Hid (Below w.heap.size w w4) := hb4
      clear hg4 hb4 hcell HG1
      go_wp2
      go_roundw
      case rel => exact ⟨j + c, by omega, hc3, by go_num, HG5.out, HB5.out⟩
      case measure => simp [intOf]; omega
    · obtain rfl : j = n := by omega
      go_wp2
      go_ret
      exact ⟨_, _, rfl, own_fil hrow.out (Nat.le_refl _) hn, hbel.out⟩
set_option maxHeartbeats 1000000 in
set_option maxRecDepth 100000 in
theorem All_any {k r c q : Int} {N W : Nat} {x : Int} (h : Par k r c q N W x) (v : Int) (w : World) (E : Int) (hE : erA x v = E) :
    Calls Tryz.prog 39 #[.agg #[.int .i64 k, .int .i64 r, .int .i64 c, .int .i64 q], .int .i64 v] w (Ans w E N (fun _ => v)) := by
  have HD := fun w => Drives_any h w
  have hx := h.err
  have hf := h.few
  have hs := h.some
  have HV := fun w => noVersion_any v w
  clear h
  obtain ⟨w0, hw0⟩ : ∃ w0, w0 = w.alloc (.cells #[.int .i64 k, .int .i64 r, .int .i64 c, .int .i64 q] 23) := ⟨_, rfl⟩
  have b0 : Below w.heap.size w w0 := by rw [hw0]; exact below_alloc _ _
  unfold Ans
  rcases hx with rfl | rfl
  · cases hv : verB v
    · obtain rfl : E = 70 := by rw [<- hE]; unfold erA; rw [if_pos rfl, if_neg (by rw [hv]; decide)]
      rw [hv] at HV
      rw [lenE_ne N (show (70 : Int) ≠ 0 by decide)]
      clear hE hv hs
      go_enter Tryz.func39, Tryz.ntmps39
      go_wp2_with fail
      rw [<- hw0]
      refine (HD _).mono ?_
      rintro e wa ⟨rfl, ha⟩
      have hb := below_then b0 ha
      clear hw0
      go_wp2_with fail
      refine (HV _).mono ?_
      rintro e w' ⟨rfl, rfl⟩
      go_wp2_with fail
      go_ret2
      exact ⟨_, _, rfl, own_nil _ _ _, hb⟩
    · obtain rfl : E = 0 := by rw [<- hE]; unfold erA; rw [if_pos rfl, if_pos hv]
      rw [hv] at HV
      rw [lenE_zero]
      have h1 := hs rfl
      have HR := fun w gx hx => repeat_any w gx N v hf h1 hx
      clear hE hv hs
      go_enter Tryz.func39, Tryz.ntmps39
      go_wp2_with fail
      rw [<- hw0]
      refine (HD _).mono ?_
      rintro e wa ⟨rfl, ha⟩
      have hb := below_then b0 ha
      clear hw0
      go_wp2_with fail
      refine (HV _).mono ?_
      rintro e w' ⟨rfl, hw'⟩
      obtain rfl := hw'
      go_wp2_with fail
      refine (HR _ w'.heap.size ?_).mono ?_
      · rw [cell_of_row _ _ _ _ _ _ (heap_alloc_new w' _)]; rfl
      rintro e wb ⟨g, cap, rfl, hown, hb2⟩
      have hb3 := below_then hb (below_then (below_alloc _ _) hb2)
      go_wp2_with fail
      go_ret2
      exact ⟨_, _, rfl, hown.mono (by have := hb.size; simp; omega), hb3⟩
  · obtain rfl : E = 2 := by rw [<- hE]; unfold erA; rw [if_neg (by decide)]
    rw [lenE_ne N (show (2 : Int) ≠ 0 by decide)]
    clear hE hs
    go_enter Tryz.func39, Tryz.ntmps39
    go_wp2_with fail
    rw [<- hw0]
    refine (HD _).mono ?_
    rintro e wa ⟨rfl, ha⟩
    have hb := below_then b0 ha
    clear hw0
    go_wp2_with fail
    go_ret2
    exact ⟨_, _, rfl, own_nil _ _ _, hb⟩
end Go.Proofs.YtdmpiipllmjloaaGreat
namespace Go.Proofs.YtdmpiipllmjloaaGreat
open Go.RowKit
def Cap (wz v : World) (gp : Nat) (ty e sz m : Nat) (xs : List Value) (Y : Nat -> Prop) : Prop :=
  ∃ ao cap, At wz v gp #[.slice ao m cap] ty /\ v.ownsRow wz.heap.size e sz (.slice ao m cap) m xs /\ ∀ g, Y g ↔ (g = gp \/ ∃ a : Addr, ao = some a /\ g = a.block)
theorem owns_at {w : World} {B e sz n cap : Nat} {ao : Option Addr} {xs : List Value} (h : w.ownsRow B e sz (.slice ao n cap) n xs) {a : Addr} (ha : ao = some a) : B <= a.block /\ a.block < w.heap.size /\ ∃ cur, w.heap[a.block]? = some (.cells cur e (0, 0)) := by
  rcases h.2 with ⟨h1, _⟩ | ⟨g, cap', cur, h1, h2, h3, _⟩
  · cases h1; cases ha
  · cases h1; cases ha; exact ⟨h2, (Array.getElem?_eq_some_iff.1 h3).1, cur, h3⟩
theorem owns_blocks {w w' : World} {B e sz n cap : Nat} {ao : Option Addr} {xs : List Value} (h : w.ownsRow B e sz (.slice ao n cap) n xs) (hb : ∀ a : Addr, ao = some a -> w'.heap[a.block]? = w.heap[a.block]?) : w'.ownsRow B e sz (.slice ao n cap) n xs := by
  refine ⟨h.1, ?_⟩
  rcases h.2 with h1 | ⟨g, cap', cur, h1, h2, h3, h4⟩
  · exact .inl h1
  · cases h1; exact .inr ⟨g, cap, cur, rfl, h2, (hb ⟨g, 0, none⟩ rfl).trans h3, h4⟩
theorem owns_below {w w' : World} {B e sz n cap : Nat} {ao : Option Addr} {xs : List Value} (h : w.ownsRow B e sz (.slice ao n cap) n xs) (hb : Below w.heap.size w w') : w'.ownsRow B e sz (.slice ao n cap) n xs :=
  owns_blocks h fun _ ha => hb.block _ (owns_at h ha).2.1
theorem Cap.below {wz v v' : World} {gp ty e sz m : Nat} {xs : List Value} {Y : Nat -> Prop} (h : Cap wz v gp ty e sz m xs Y) (hb : Below v.heap.size v v') : Cap wz v' gp ty e sz m xs Y := by
  obtain ⟨ao, cap, hA, hO, hY⟩ := h
  exact ⟨ao, cap, hA.below hb, owns_below hO hb, hY⟩
theorem Cap.at_ {wz v : World} {gp ty e sz m : Nat} {xs : List Value} {Y : Nat -> Prop} (h : Cap wz v gp ty e sz m xs Y) (g : Nat) (hg : Y g) : wz.heap.size <= g /\ g < v.heap.size := by
  obtain ⟨ao, cap, hA, hO, hY⟩ := h
  rcases (hY g).1 hg with rfl | ⟨a, ha, rfl⟩
  · exact ⟨hA.1, hA.lt⟩
  · exact ⟨(owns_at hO ha).1, (owns_at hO ha).2.1⟩
theorem cap_grow {wz v v1 w' : World} {gp ty e sz m cap g cap' : Nat} {ao : Option Addr} {xs xs' : List Value} {Y : Nat -> Prop} (hty : ty ≠ e) (hA : At wz v gp #[.slice ao m cap] ty) (hO : v.ownsRow wz.heap.size e sz (.slice ao m cap) m xs) (hY : ∀ g, Y g ↔ (g = gp \/ ∃ a : Addr, ao = some a /\ g = a.block))
    (hb : Below v.heap.size v v1) (hg : v1.grownBy w' (Value.slice ao m cap).ownBlock) (ho : w'.ownsRow wz.heap.size e sz (.slice (some ⟨g, 0, none⟩) (m + 1) cap') (m + 1) xs') (hgg : (Value.slice ao m cap).ownBlock = some g \/ g = v1.heap.size) :
    Cap wz (w'.setCell ⟨gp, 0, none⟩ (.slice (some ⟨g, 0, none⟩) (m + 1) cap')) gp ty e sz (m + 1) xs' (fun x => x = gp \/ x = g) /\ Only Y v (w'.setCell ⟨gp, 0, none⟩ (.slice (some ⟨g, 0, none⟩) (m + 1) cap')) /\ ∀ x, (x = gp \/ x = g) -> Y x \/ v.heap.size <= x := by
  have hs := hb.size
  have hlt := hA.lt
  have hne : ∀ a : Addr, ao = some a -> a.block ≠ gp := fun a ha e1 => by
    obtain ⟨_, _, cur, hc⟩ := owns_at hO ha
    rw [e1, hA.2] at hc
    cases hc
    exact hty rfl
  have hgne : g ≠ gp := by
    rcases hgg with e1 | e1
    · cases ao with
      | none => cases e1
      | some a => cases e1; exact hne a rfl
    · omega
  have hA' : At wz w' gp #[.slice ao m cap] ty := ⟨hA.1, by
    rw [hg.block gp (by omega) (fun e1 => by
      cases ao with
      | none => cases e1
      | some a => cases e1; exact hne a rfl rfl), hb.block gp hlt]
    exact hA.2⟩
  refine ⟨⟨some ⟨g, 0, none⟩, cap', ?_, ?_, fun x => ?_⟩, ⟨?_, ?_, ?_, ?_, fun x hx hy => ?_⟩, fun x hx => ?_⟩
  · exact hA'.set 0 _
  · exact owns_blocks ho fun a ha => by cases ha; exact Below.heap_setCell _ _ _ _ (by simpa using hgne)
  · constructor
    · rintro (h | h)
      · exact .inl h
      · exact .inr ⟨_, rfl, h⟩
    · rintro (h | ⟨a, ha, h⟩)
      · exact .inl h
      · cases ha; exact .inr h
  · exact hg.os.trans hb.os
  · exact hg.tape.trans hb.tape
  · exact hg.output.trans hb.output
  · have := hg.size; simp [World.setCell]; omega
  · have hxgp : x ≠ gp := fun e1 => hy ((hY x).2 (.inl e1))
    rw [Below.heap_setCell _ _ _ _ (by simpa using hxgp), hg.block x (by omega) (fun e1 => by
      cases ao with
      | none => cases e1
      | some a => cases e1; exact hy ((hY _).2 (.inr ⟨a, rfl, rfl⟩))), hb.block x hx]
  · rcases hx with h | h
    · exact .inl ((hY x).2 (.inl h))
    · subst h
      rcases hgg with e1 | e1
      · cases ao with
        | none => cases e1
        | some a => cases e1; exact .inl ((hY _).2 (.inr ⟨a, rfl, rfl⟩))
      · exact .inr (by omega)
def lz (z : Nat -> Sl) (i : Nat) : Nat := if (z i).ce = 0 then 0 else 1
def ct (z : Nat -> Sl) (d : Nat) : Nat := Cod.cnt (lz z) d
end Go.Proofs.YtdmpiipllmjloaaGreat
namespace Go.Proofs.YtdmpiipllmjloaaGreat
open Go.RowKit
def zv (N : Nat) (c : Int) (L : Nat -> Nat) (F : Nat -> Nat -> UInt8) (kd : UInt8) (v : Int) (i : Nat) : Sl := zz (yy N c L F) kd (tS (yy N c L F) kd v (2 * N)) i
theorem cap_new {wz v v' : World} {gp ty e sz : Nat} (hb : Below wz.heap.size wz v) (hv : v' = v.alloc (.cells #[.slice none 0 0] ty)) (hg : v.heap.size = gp) : Cap wz v' gp ty e sz 0 [] (fun x => x = gp) := by
  refine ⟨none, 0, by rw [<- hg]; exact at_made hb hv, World.ownsRow_nil _ _ _ _, fun g => ⟨fun h => .inl h, fun h => ?_⟩⟩
  rcases h with h | ⟨a, ha, _⟩
  · exact h
  · cases ha
end Go.Proofs.YtdmpiipllmjloaaGreat
namespace Go.Proofs.YtdmpiipllmjloaaGreat
open Go.RowKit
def toK (u : UInt8) : Cod.K := ⟨u.toNat, u.toNat_lt⟩
def bK (a : Cod.K) : UInt8 := UInt8.ofNat (Cod.K.n a)
theorem bK_n (a : Cod.K) : (bK a).toNat = Cod.K.n a := by
  have := Cod.K.lt a
  unfold bK; simp; omega
theorem bK_toK (u : UInt8) : bK (toK u) = u := UInt8.toNat_inj.1 (bK_n (toK u))
theorem toK_bK (a : Cod.K) : toK (bK a) = a := Cod.K.ext (bK_n a)
theorem rd_toK {w : World} {ao : Option Addr} {n : Nat} {F : Nat -> UInt8} (h : RdU w ao n F) : Cod.Rd w ao n (fun j => toK (F j)) := h
theorem cells_bK (n : Nat) (f : Nat -> Cod.K) : Cod.cellsOf n f = byF n (fun j => bK (f j)) := by
  unfold Cod.cellsOf byF
  refine List.map_congr_left fun i _ => ?_
  rw [bK_n]
def Lz (z : Nat -> Sl) (i : Nat) : Nat := (z i).dn
def Hz (z : Nat -> Sl) (i j : Nat) : Cod.K := toK ((z i).D j)
def cD (k : Nat) (z : Nat -> Sl) (N : Nat) : Cod.M := Cod.dec k (Cod.sel (Lz z) N) (Hz z)
def cH (k : Nat) (z : Nat -> Sl) (N : Nat) (i b : Nat) : UInt8 := bK (Cod.enc k (cD k z N) i b)
theorem rows_push (d : Nat) (T : Nat -> Option Addr) (L U : Nat -> Nat) (b : Option Addr) (u : Nat) : Cod.rowsOf (d + 1) (Cod.put d b T) L (Cod.put d u U) = Cod.rowsOf d T L U ++ [.slice b (L d) u] := by
  unfold Cod.rowsOf
  rw [List.range_succ, List.map_append, List.map_cons, List.map_nil, Cod.put_at, Cod.put_at]
  congr 1
  refine List.map_congr_left fun i hi => ?_
  have := List.mem_range.1 hi
  rw [Cod.put_ne _ _ (by omega), Cod.put_ne _ _ (by omega)]
theorem cap_apart {wz v : World} {gp ty e sz m b t : Nat} {xs : List Value} {Y : Nat -> Prop} {cur : Array Value} {f : Nat × Nat} (h : Cap wz v gp ty e sz m xs Y) (hb : v.heap[b]? = some (.cells cur t f)) (h1 : ty ≠ t) (h2 : e ≠ t) : ¬ Y b := fun hy => by
  obtain ⟨ao, cap, hA, hO, hY⟩ := h
  rcases (hY b).1 hy with rfl | ⟨a, ha, rfl⟩
  · rw [hA.2] at hb; cases hb; exact h1 rfl
  · obtain ⟨_, _, cur', hc⟩ := owns_at hO ha
    rw [hc] at hb; cases hb; exact h2 rfl
theorem owu_stay {wz v v' : World} {B n cap gp ty e sz m : Nat} {ao : Option Addr} {F : Nat -> UInt8} {xs : List Value} {Y : Nat -> Prop} (h : OwU B v ao n cap F) (hc : Cap wz v gp ty e sz m xs Y) (h1 : ty ≠ 5) (h2 : e ≠ 5) (ho : Only Y v v') : OwU B v' ao n cap F :=
  owns_blocks h fun a ha => by
    obtain ⟨_, hl, cur, hh⟩ := owns_at h ha
    exact ho.block _ hl (cap_apart hc hh h1 h2)
def Thr (wz : World) (gp : Nat) (z : Nat -> Sl) (d : Nat) (v : World) (Y : Nat -> Prop) : Prop :=
  ∃ T U, Cap wz v gp 75 55 1 d (Cod.rowsOf d T (Lz z) U) Y /\ ∀ i, i < d -> OwU wz.heap.size v (T i) (Lz z i) (U i) (z i).D
set_option maxHeartbeats 2000000 in
set_option maxRecDepth 100000 in
theorem cells1_any (wz v : World) (gp d B : Nat) (z : Nat -> Sl) (Y : Nat -> Prop) (x0 x1 x2 : Value) (hd : d < 16) (ao : Option Addr) (ca : Nat) (bo : Option Addr) (cb : Nat) (h : Thr wz gp z d v Y) (hG : OwU B v bo (z d).dn cb (z d).D) (hB : ∀ g, Y g -> g < B) :
    Calls Tryz.prog 95 #[x2, .agg #[x0, x1], slv (z d) ao ca bo cb, .pointer (some ⟨gp, 0, none⟩)] v fun e v' => e = .returned (.tuple #[]) /\ ∃ Y', Thr wz gp z (d + 1) v' Y' /\ Only Y v v' /\ ∀ g, Y' g -> Y g \/ v.heap.size <= g := by
  unfold slv
  obtain ⟨T, U, ⟨oo, cc, hA, hO, hY⟩, hT⟩ := h
  have hsz : wz.heap.size <= v.heap.size := Nat.le_trans hA.1 (Nat.le_of_lt hA.lt)
  have hBz : wz.heap.size <= B := by have := hB gp ((hY gp).2 (.inl rfl)); have := hA.1; omega
  obtain ⟨v0, hv0⟩ : ∃ v0, v0 = v.alloc (.cells #[x0, x1] 67) := ⟨_, rfl⟩
  obtain ⟨v1, hv1⟩ : ∃ v1, v1 = v0.alloc (.cells #[.int .u8 (((z d).kd.toNat : Nat) : Int), .int .i64 (z d).ix, .int .i64 (z d).ce, .int .i64 (z d).st, .slice ao (z d).vn ca, .slice bo (z d).dn cb] 63) := ⟨_, rfl⟩
  have b0 : Below v.heap.size v v0 := by rw [hv0]; exact below_alloc _ _
  have b1 : Below v.heap.size v v1 := by rw [hv1]; exact below_then b0 (below_alloc _ _)
  have z0 : v0.heap.size = v.heap.size + 1 := by rw [hv0]; simp
  obtain ⟨xs, hxs⟩ : ∃ xs, xs = Cod.rowsOf d T (Lz z) U := ⟨_, rfl⟩
  have HX : Hid (xs ++ [.slice bo (z d).dn cb] = Cod.rowsOf (d + 1) (Cod.put d bo T) (Lz z) (Cod.put d cb U)) := by show _ = _; rw [rows_push, hxs]; rfl
  rw [<- hxs] at hO
  obtain ⟨i0, hi, hi0, hi1, hi2⟩ := info_parts Cod.info23c
  have HA : Hid (At wz v gp #[.slice oo d cc] 75) := hA
  have HO : Hid (v.ownsRow wz.heap.size 55 1 (.slice oo d cc) d xs) := hO
  have HY : Hid (∀ g, Y g ↔ (g = gp \/ ∃ a : Addr, oo = some a /\ g = a.block)) := hY
  have HB : Hid (Below v.heap.size v v1) := b1
  have HZ1 : Hid (v1.heap.size = v.heap.size + 1 + 1) := by show _ = _; rw [hv1]; simp [z0]
  have HT : Hid (∀ i, i < d -> OwU wz.heap.size v (T i) (Lz z i) (U i) (z i).D) := hT
  have HG : Hid (OwU wz.heap.size v bo (z d).dn cb (z d).D) := hG.mono hBz
  have sg := fun o o' => ((hA.alloc o).alloc o').cell (i := 0) rfl
  clear hA hO hY b0 b1 z0 hT hG hB hBz hxs
  go_enter Tryz.func95, Tryz.ntmps95
  go_wp2_with (at_builtin; rw [<- hv0, <- hv1]; clear hv0 hv1; refine wpList_append_lies _ (by rfl) (.tmp 7) (.tmp 10) 75 (by rfl) wz.heap.size 55 i0 (.slice none 0 0) 1 24 Tryz.underlying75 hi hi0 hi1 hi2 (by rfl) (by decide) (.slice oo d cc) d xs (by rfl) (owns_below HO.out (below_then HB.out (below_alloc _ _))) ⟨v.heap.size + 1 + 1, 0, none⟩ 1 1 [.slice bo (z d).dn cb] (by rfl) (by rfl) (by rw [<- HZ1.out]; exact World.news_of_block (heap_alloc_new v1 _)) (by simp [Value.oneCell']) (by decide) (by unfold maxLen; omega) (by omega) (by have := HB.out.size; simp; omega) (v1.heap.size + 1) (by simp) ?_; intro g5 cap5 w5 hown5 hgrow5 hgg5 _
               have hall := cap_grow (by decide) HA.out HO.out HY.out (below_then HB.out (below_alloc v1 _)) hgrow5 hown5 (by rcases hgg5 with a | a; exact .inl a; exact .inr (by rw [a]; simp))
               have hg1 := hgrow5.block gp (by have := HA.out.lt; have := HB.out.size; simp; omega) (fun e1 => by
                 cases oo with
                 | none => cases e1
                 | some a =>
                   cases e1
                   obtain ⟨_, _, cur, hc⟩ := owns_at HO.out rfl
                   rw [HA.out.2] at hc
                   cases hc)
               have hAt5 : At wz w5 gp #[.slice oo d cc] 75 := ⟨HA.out.1, hg1.trans (((HA.out.below HB.out).alloc _).2)⟩
               have t0 := hAt5.cell (i := 0) rfl
               have tf := hAt5.free
               have HALL : Hid _ := hall
               clear hall hg1 hAt5 hown5 hgrow5 hgg5)
  refine bodyPost_end (results_none rfl _ _ _) rfl ?_
  refine ⟨rfl, _, ⟨Cod.put d bo T, Cod.put d cb U, by rw [<- HX.out]; exact HALL.out.1, fun i hi => ?_⟩, HALL.out.2.1, HALL.out.2.2⟩
  have hcap : Cap wz v gp 75 55 1 d xs Y := ⟨oo, cc, HA.out, HO.out, HY.out⟩
  by_cases e : i = d
  · subst e
    rw [Cod.put_at, Cod.put_at]
    exact owu_stay HG.out hcap (by decide) (by decide) HALL.out.2.1
  · rw [Cod.put_ne _ _ e, Cod.put_ne _ _ e]
    exact owu_stay (HT.out i (by omega)) hcap (by decide) (by decide) HALL.out.2.1
end Go.Proofs.YtdmpiipllmjloaaGreat
