import Derived.Test.YtdmpiipllmjloaaGreatPj38
namespace Go.Proofs.YtdmpiipllmjloaaGreat.De
open Go.RowKit
theorem bec_one (w : World) {x : Int} {u : UInt8} (hx : x = ((u.toNat : Nat) : Int)) : Bec (w.alloc (.cells #[.int .u8 x] 5)) (some ⟨w.heap.size, 0, none⟩) 1 1 (fun _ => u) := by
  subst hx
  refine ⟨fun _ => ⟨_, _, rfl, fun j hj => ?_⟩, (fun e => by cases e), Nat.le_refl _⟩
  obtain rfl : j = 0 := by omega
  rw [cell_of_row _ _ _ _ _ _ (heap_alloc_new w _)]
  rfl
theorem upR_step {F H : Nat -> UInt8} {n i : Nat} {u : UInt8} (h : H i = u) : upR (upR F n i H) (n + i) 1 (fun _ => u) = upR F n (i + 1) H := by
  funext j
  by_cases e : j = n + i
  · subst e
    rw [upR_in (by omega), upR_in (by omega), show n + i - n = i by omega, h]
  · rw [upR_out (by omega)]
    by_cases e2 : n <= j /\ j < n + i
    · rw [upR_in e2, upR_in (by omega)]
    · rw [upR_out e2, upR_out (by omega)]
theorem byF_up {W n m : Nat} (G H : Nat -> UInt8) (h : n + m <= W) : (byF W G).take n ++ byF m H ++ (byF W G).drop (n + m) = byF W (upR G n m H) := by
  apply List.ext_getElem?
  intro i
  have hl : ((byF W G).take n ++ byF m H).length = n + m := by rw [List.length_append, List.length_take, byF_length, byF_length]; omega
  by_cases h1 : i < n + m
  · rw [List.getElem?_append_left (by omega), byF_get W _ _ (by omega)]
    by_cases h2 : i < n
    · rw [List.getElem?_append_left (by rw [List.length_take, byF_length]; omega), List.getElem?_take_of_lt h2, byF_get W _ _ (by omega), upR_out (by omega)]
    · rw [List.getElem?_append_right (by rw [List.length_take, byF_length]; omega), List.length_take, byF_length, show i - min n W = i - n by omega, byF_get m _ _ (by omega), upR_in (by omega)]
  · rw [List.getElem?_append_right (by omega), hl, List.getElem?_drop, show n + m + (i - (n + m)) = i by omega]
    by_cases h3 : i < W
    · rw [byF_get W _ _ h3, byF_get W _ _ h3, upR_out (by omega)]
    · rw [List.getElem?_eq_none (by rw [byF_length]; omega), List.getElem?_eq_none (by rw [byF_length]; omega)]
theorem wpList_append_room {w : World} {ops : Array Oper} {rest : List Oper} {o : Oper} {a : Act} {Q : Exit -> Act -> World -> Prop} (hgd : o.guard = none) (s x : Operand)
    (ho : o.op = .call { callee := .builtin .append, args := #[s, x], argTypes := #[55, 55] }) (g n m W cb : Nat) (bo : Option Addr) (G H : Nat -> UInt8)
    (hs : a.eval s = .slice (some ⟨g, 0, none⟩) n W) (hx : a.eval x = .slice bo m cb) (h : Bk w g W G) (hv : Bec w bo m cb H) (hroom : n + m <= W) (hW : W <= 1000)
    (cont : ∀ w', Bk w' g W (upR G n m H) -> Only (· = g) w w' -> wpList Tryz.prog ops Q rest (a.put o.dst (.slice (some ⟨g, 0, none⟩) (n + m) W)) w') : wpList Tryz.prog ops Q (o :: rest) a w := by
  obtain ⟨j0, hj, hj0, hj1, hj2⟩ := info_parts info5
  cases bo with
  | none =>
    obtain ⟨rfl, rfl⟩ := hv.nil rfl
    have := cont w (h.congr fun i _ => (upR_out (by omega)).symm) (Only.refl _ _)
    have hown : w.ownsRow 0 5 1 (.slice (some ⟨g, 0, none⟩) n W) n (byF n G) := by
      refine ⟨by rw [byF_length, Nat.mul_one], .inr ⟨g, W, _, rfl, Nat.zero_le _, h, by omega, by unfold maxLen; omega, by simp [byF_length], ?_⟩⟩
      rw [List.toList_toArray, Nat.mul_one]
      apply List.ext_getElem?
      intro i
      by_cases hi : i < n
      · rw [List.getElem?_take_of_lt hi, byF_get W _ _ (by omega), byF_get n _ _ hi]
      · rw [List.getElem?_eq_none (by rw [List.length_take, byF_length]; omega), List.getElem?_eq_none (by rw [byF_length]; omega)]
    exact wpList_append_own_none hgd s x 55 ho 0 5 j0 1 Tryz.underlying55 hj (.slice (some ⟨g, 0, none⟩) n W) n (byF n G) hs hown hx this
  | some ad =>
    refine wpList_plain hgd fun K hK => ?_
    have hr := run_append_room (P := Tryz.prog) w 55 o.type 5 j0 Tryz.underlying55 hj g n W (byF W G).toArray h ad m cb (byF m H) (by rw [byF_length, hj1, Nat.mul_one]) (bec_news hv) (byF_one _ _) hroom (by rw [hj1, byF_length]; simp [byF_length]; omega)
    unfold Oper.wp execOp
    simp only [ho, resolve, invoke, builtin, Sem.run_bind, Sem.run_pure, Result.andThen_ok, List.map_toArray, List.map_cons, List.map_nil, hs, hx, hr]
    refine hK _ _ (cont _ ?_ ?_)
    · unfold Bk
      rw [setRow_heap w g _ _ 5 _ h, hj1, byF_length, Nat.mul_one, byF_up G H hroom]
    · exact ⟨rfl, rfl, rfl, by simp, fun k _ hk => setRow_other w g k _ hk⟩
set_option maxHeartbeats 4000000 in
set_option maxRecDepth 100000 in
theorem appendNumber_own (w : World) (B : Nat) (ao : Option Addr) (n cap m k : Nat) (F : Nat -> UInt8) (h : OwU B w ao n cap F) (hB : B <= w.heap.size) (hk : k <= 4) (hn : n <= 1000) (hm : m < 4294967296) :
    Calls Tryz.prog 67 #[.slice ao n cap, .int .i64 (m : Int), .int .i64 (k : Int)] w fun e w' => ∃ uo uc, e = .returned (.slice uo (n + k) uc) /\ OwU B w' uo (n + k) uc (upR F n k (fun i => dg m (k - 1 - i))) /\ Below B w w' := by
  have HX : Hid (OwU B w ao n cap F) := h
  clear h
  go_enter Tryz.func67, Tryz.ntmps67
  go_wp2_with fail
  go_loopw [0, 2] (fun y x wr => ∃ i t : Nat, i + t = k /\ x = .int .i64 (t : Int) /\ (∃ uo uc, y = .slice uo (n + i) uc /\ Hid (OwU B wr uo (n + i) uc (upR F n i (fun j => dg m (k - 1 - j))))) /\ Hid (Below B w wr)) (fun _ x _ => (intOf x).toNat)
  case atStart => exact ⟨0, k, by omega, rfl, ⟨ao, cap, rfl, HX.out.congr fun i hi => (upR_out (by omega)).symm⟩, Below.refl _ _⟩
  case round =>
    obtain ⟨i, t, hit, rfl, ⟨uo, uc, rfl, hown⟩, hbel⟩ := hrel
    by_cases hlt : 0 < t
    · have hs : B <= wr.heap.size := Nat.le_trans hB hbel.out.size
      rcases (show t = 1 \/ t = 2 \/ t = 3 \/ t = 4 by omega) with rfl | rfl | rfl | rfl
      · have hv := bec_one wr (x := (m : Int) % 256) (u := dg m 0) (by rw [dg_toNat]; simp <;> omega)
        have ho := hown.out.below (below_alloc wr (.cells #[.int .u8 ((m : Int) % 256)] 5))
        have HU : Hid (upR (upR F n i (fun j => dg m (k - 1 - j))) (n + i) 1 (fun _ => dg m 0) = upR F n (i + 1) (fun j => dg m (k - 1 - j))) := upR_step (by rw [show k - 1 - i = 0 by omega])
        have HG : Hid (∀ g, (Value.slice uo (n + i) uc).ownBlock = some g -> B <= g) := own_ge hown.out
        go_wp2_with (at_builtin; refine wpList_append_bytes (by rfl) (.tmp 11) (.tmp 17) (by rfl) B (n + i) 1 uc 1 uo (some ⟨wr.heap.size, 0, none⟩) _ _ (by rfl) (by rfl) ho hv (by omega) (by simp; omega) ?_; intro uo2 uc2 w2 ho2 hg2; have HO2 : Hid (OwU B w2 uo2 (n + i + 1) uc2 (upR F n (i + 1) (fun j => dg m (k - 1 - j)))) := (by show OwU _ _ _ _ _ _; rw [<- HU.out]; exact ho2); have HB2 : Hid (Below B w w2) := (hbel.out.alloc hs _).grown hg2 (by simp; omega) HG.out; clear ho2 hg2 hv ho)
        exact ⟨⟨i + 1, 0, by omega, rfl, ⟨_, _, rfl, HO2⟩, HB2⟩, by simp [intOf]⟩
      · have hv := bec_one wr (x := (m : Int) / 256 % 256) (u := dg m 1) (by rw [dg_toNat]; simp <;> omega)
        have ho := hown.out.below (below_alloc wr (.cells #[.int .u8 ((m : Int) / 256 % 256)] 5))
        have HU : Hid (upR (upR F n i (fun j => dg m (k - 1 - j))) (n + i) 1 (fun _ => dg m 1) = upR F n (i + 1) (fun j => dg m (k - 1 - j))) := upR_step (by rw [show k - 1 - i = 1 by omega])
        have HG : Hid (∀ g, (Value.slice uo (n + i) uc).ownBlock = some g -> B <= g) := own_ge hown.out
        go_wp2_with (at_builtin; refine wpList_append_bytes (by rfl) (.tmp 11) (.tmp 17) (by rfl) B (n + i) 1 uc 1 uo (some ⟨wr.heap.size, 0, none⟩) _ _ (by rfl) (by rfl) ho hv (by omega) (by simp; omega) ?_; intro uo2 uc2 w2 ho2 hg2; have HO2 : Hid (OwU B w2 uo2 (n + i + 1) uc2 (upR F n (i + 1) (fun j => dg m (k - 1 - j)))) := (by show OwU _ _ _ _ _ _; rw [<- HU.out]; exact ho2); have HB2 : Hid (Below B w w2) := (hbel.out.alloc hs _).grown hg2 (by simp; omega) HG.out; clear ho2 hg2 hv ho)
        exact ⟨⟨i + 1, 1, by omega, rfl, ⟨_, _, rfl, HO2⟩, HB2⟩, by simp [intOf]⟩
      · have hv := bec_one wr (x := (m : Int) / 65536 % 256) (u := dg m 2) (by rw [dg_toNat]; simp <;> omega)
        have ho := hown.out.below (below_alloc wr (.cells #[.int .u8 ((m : Int) / 65536 % 256)] 5))
        have HU : Hid (upR (upR F n i (fun j => dg m (k - 1 - j))) (n + i) 1 (fun _ => dg m 2) = upR F n (i + 1) (fun j => dg m (k - 1 - j))) := upR_step (by rw [show k - 1 - i = 2 by omega])
        have HG : Hid (∀ g, (Value.slice uo (n + i) uc).ownBlock = some g -> B <= g) := own_ge hown.out
        go_wp2_with (at_builtin; refine wpList_append_bytes (by rfl) (.tmp 11) (.tmp 17) (by rfl) B (n + i) 1 uc 1 uo (some ⟨wr.heap.size, 0, none⟩) _ _ (by rfl) (by rfl) ho hv (by omega) (by simp; omega) ?_; intro uo2 uc2 w2 ho2 hg2; have HO2 : Hid (OwU B w2 uo2 (n + i + 1) uc2 (upR F n (i + 1) (fun j => dg m (k - 1 - j)))) := (by show OwU _ _ _ _ _ _; rw [<- HU.out]; exact ho2); have HB2 : Hid (Below B w w2) := (hbel.out.alloc hs _).grown hg2 (by simp; omega) HG.out; clear ho2 hg2 hv ho)
        exact ⟨⟨i + 1, 2, by omega, rfl, ⟨_, _, rfl, HO2⟩, HB2⟩, by simp [intOf]⟩
      · have hv := bec_one wr (x := (m : Int) / 16777216) (u := dg m 3) (by rw [dg_toNat]; simp <;> omega)
        have ho := hown.out.below (below_alloc wr (.cells #[.int .u8 ((m : Int) / 16777216)] 5))
        have HU : Hid (upR (upR F n i (fun j => dg m (k - 1 - j))) (n + i) 1 (fun _ => dg m 3) = upR F n (i + 1) (fun j => dg m (k - 1 - j))) := upR_step (by rw [show k - 1 - i = 3 by omega])
        have HG : Hid (∀ g, (Value.slice uo (n + i) uc).ownBlock = some g -> B <= g) := own_ge hown.out
        go_wp2_with (at_builtin; refine wpList_append_bytes (by rfl) (.tmp 11) (.tmp 17) (by rfl) B (n + i) 1 uc 1 uo (some ⟨wr.heap.size, 0, none⟩) _ _ (by rfl) (by rfl) ho hv (by omega) (by simp; omega) ?_; intro uo2 uc2 w2 ho2 hg2; have HO2 : Hid (OwU B w2 uo2 (n + i + 1) uc2 (upR F n (i + 1) (fun j => dg m (k - 1 - j)))) := (by show OwU _ _ _ _ _ _; rw [<- HU.out]; exact ho2); have HB2 : Hid (Below B w w2) := (hbel.out.alloc hs _).grown hg2 (by simp; omega) HG.out; clear ho2 hg2 hv ho)
        exact ⟨⟨i + 1, 3, by omega, rfl, ⟨_, _, rfl, HO2⟩, HB2⟩, by simp [intOf]⟩
    · obtain rfl : t = 0 := by omega
      obtain rfl : i = k := by omega
      go_wp2
      go_ret
      exact ⟨uo, uc, rfl, hown.out, hbel.out⟩
set_option maxHeartbeats 4000000 in
set_option maxRecDepth 100000 in
theorem appendNumber_room (w : World) (g n W m k : Nat) (G : Nat -> UInt8) (h : Bk w g W G) (hk : k <= 4) (hn : n + k <= W) (hW : W <= 1000) (hm : m < 4294967296) :
    Calls Tryz.prog 67 #[.slice (some ⟨g, 0, none⟩) n W, .int .i64 (m : Int), .int .i64 (k : Int)] w fun e w' => e = .returned (.slice (some ⟨g, 0, none⟩) (n + k) W) /\ Bk w' g W (upR G n k (fun i => dg m (k - 1 - i))) /\ Only (· = g) w w' := by
  have HX : Hid (Bk w g W G) := h
  clear h
  go_enter Tryz.func67, Tryz.ntmps67
  go_wp2_with fail
  go_loopw [0, 2] (fun y x wr => ∃ i t : Nat, i + t = k /\ x = .int .i64 (t : Int) /\ y = .slice (some ⟨g, 0, none⟩) (n + i) W /\ Hid (Bk wr g W (upR G n i (fun j => dg m (k - 1 - j)))) /\ Hid (Only (· = g) w wr)) (fun _ x _ => (intOf x).toNat)
  case atStart => exact ⟨0, k, by omega, rfl, rfl, HX.out.congr fun i hi => (upR_out (by omega)).symm, Only.refl _ _⟩
  case round =>
    obtain ⟨i, t, hit, rfl, rfl, hown, hbel⟩ := hrel
    by_cases hlt : 0 < t
    · rcases (show t = 1 \/ t = 2 \/ t = 3 \/ t = 4 by omega) with rfl | rfl | rfl | rfl
      · have hv := bec_one wr (x := (m : Int) % 256) (u := dg m 0) (by rw [dg_toNat]; simp <;> omega)
        have ho := hown.out.below (below_alloc wr (.cells #[.int .u8 ((m : Int) % 256)] 5))
        have HU : Hid (upR (upR G n i (fun j => dg m (k - 1 - j))) (n + i) 1 (fun _ => dg m 0) = upR G n (i + 1) (fun j => dg m (k - 1 - j))) := upR_step (by rw [show k - 1 - i = 0 by omega])
        go_wp2_with (at_builtin; refine wpList_append_room (by rfl) (.tmp 11) (.tmp 17) (by rfl) g (n + i) 1 W 1 (some ⟨wr.heap.size, 0, none⟩) _ _ (by rfl) (by rfl) ho hv (by omega) hW ?_; intro w2 ho2 hg2; have HO2 : Hid (Bk w2 g W (upR G n (i + 1) (fun j => dg m (k - 1 - j)))) := (by show Bk _ _ _ _; rw [<- HU.out]; exact ho2); have HB2 : Hid (Only (· = g) w w2) := (hbel.out.alloc _).trans hg2; clear ho2 hg2 hv ho)
        exact ⟨⟨i + 1, 0, by omega, rfl, rfl, HO2, HB2⟩, by simp [intOf]⟩
      · have hv := bec_one wr (x := (m : Int) / 256 % 256) (u := dg m 1) (by rw [dg_toNat]; simp <;> omega)
        have ho := hown.out.below (below_alloc wr (.cells #[.int .u8 ((m : Int) / 256 % 256)] 5))
        have HU : Hid (upR (upR G n i (fun j => dg m (k - 1 - j))) (n + i) 1 (fun _ => dg m 1) = upR G n (i + 1) (fun j => dg m (k - 1 - j))) := upR_step (by rw [show k - 1 - i = 1 by omega])
        go_wp2_with (at_builtin; refine wpList_append_room (by rfl) (.tmp 11) (.tmp 17) (by rfl) g (n + i) 1 W 1 (some ⟨wr.heap.size, 0, none⟩) _ _ (by rfl) (by rfl) ho hv (by omega) hW ?_; intro w2 ho2 hg2; have HO2 : Hid (Bk w2 g W (upR G n (i + 1) (fun j => dg m (k - 1 - j)))) := (by show Bk _ _ _ _; rw [<- HU.out]; exact ho2); have HB2 : Hid (Only (· = g) w w2) := (hbel.out.alloc _).trans hg2; clear ho2 hg2 hv ho)
        exact ⟨⟨i + 1, 1, by omega, rfl, rfl, HO2, HB2⟩, by simp [intOf]⟩
      · have hv := bec_one wr (x := (m : Int) / 65536 % 256) (u := dg m 2) (by rw [dg_toNat]; simp <;> omega)
        have ho := hown.out.below (below_alloc wr (.cells #[.int .u8 ((m : Int) / 65536 % 256)] 5))
        have HU : Hid (upR (upR G n i (fun j => dg m (k - 1 - j))) (n + i) 1 (fun _ => dg m 2) = upR G n (i + 1) (fun j => dg m (k - 1 - j))) := upR_step (by rw [show k - 1 - i = 2 by omega])
        go_wp2_with (at_builtin; refine wpList_append_room (by rfl) (.tmp 11) (.tmp 17) (by rfl) g (n + i) 1 W 1 (some ⟨wr.heap.size, 0, none⟩) _ _ (by rfl) (by rfl) ho hv (by omega) hW ?_; intro w2 ho2 hg2; have HO2 : Hid (Bk w2 g W (upR G n (i + 1) (fun j => dg m (k - 1 - j)))) := (by show Bk _ _ _ _; rw [<- HU.out]; exact ho2); have HB2 : Hid (Only (· = g) w w2) := (hbel.out.alloc _).trans hg2; clear ho2 hg2 hv ho)
        exact ⟨⟨i + 1, 2, by omega, rfl, rfl, HO2, HB2⟩, by simp [intOf]⟩
      · have hv := bec_one wr (x := (m : Int) / 16777216) (u := dg m 3) (by rw [dg_toNat]; simp <;> omega)
        have ho := hown.out.below (below_alloc wr (.cells #[.int .u8 ((m : Int) / 16777216)] 5))
        have HU : Hid (upR (upR G n i (fun j => dg m (k - 1 - j))) (n + i) 1 (fun _ => dg m 3) = upR G n (i + 1) (fun j => dg m (k - 1 - j))) := upR_step (by rw [show k - 1 - i = 3 by omega])
        go_wp2_with (at_builtin; refine wpList_append_room (by rfl) (.tmp 11) (.tmp 17) (by rfl) g (n + i) 1 W 1 (some ⟨wr.heap.size, 0, none⟩) _ _ (by rfl) (by rfl) ho hv (by omega) hW ?_; intro w2 ho2 hg2; have HO2 : Hid (Bk w2 g W (upR G n (i + 1) (fun j => dg m (k - 1 - j)))) := (by show Bk _ _ _ _; rw [<- HU.out]; exact ho2); have HB2 : Hid (Only (· = g) w w2) := (hbel.out.alloc _).trans hg2; clear ho2 hg2 hv ho)
        exact ⟨⟨i + 1, 3, by omega, rfl, rfl, HO2, HB2⟩, by simp [intOf]⟩
    · obtain rfl : t = 0 := by omega
      obtain rfl : i = k := by omega
      go_wp2
      go_ret
      exact ⟨rfl, hown.out, hbel.out⟩
end Go.Proofs.YtdmpiipllmjloaaGreat.De
