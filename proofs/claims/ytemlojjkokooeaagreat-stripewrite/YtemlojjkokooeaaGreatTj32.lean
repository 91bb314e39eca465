import Derived.Test.YtemlojjkokooeaaGreatTj31
set_option maxHeartbeats 4000000
set_option maxRecDepth 100000
namespace Go.Proofs.YtemlojjkokooeaaGreat
open Go.RowKit
def AnsW (w : World) (t : Sl) (e : Ending) (w' : World) : Prop := ∃ ao ca, e = .returned (.slice ao t.vn ca) /\ Own w.heap.size w' ao t.vn ca t.V /\ Below w.heap.size w w'
theorem Told_any {k r c q : Int} {N W : Nat} (h : Par k r c q N W 0) (w : World) (ro : Option Addr) (rc : Nat) (A : Nat -> Option Addr) (L C : Nat -> Nat) (F : Nat -> Nat -> UInt8) (hr : Rw w ro N A L C F) (hL : ∀ j, j < 2 * N -> L j = 0 \/ L j = sz N c) (kd : UInt8) (hk : kd = 1 \/ kd = 2) (v : Int) (t : Sl) (ht : tS (yy N c L F) kd v (2 * N) = t) :
  Calls Tryz.prog 70 #[.agg #[.int .i64 k, .int .i64 r, .int .i64 c, .int .i64 q], .slice ro N rc, .int .u8 ((kd.toNat : Nat) : Int), .int .i64 v] w (AnsW w t) := by
 have hle := h.le
 have hsz : sz N c <= 1000 := by
  rcases h with ⟨hm, _⟩ | ⟨_, _, _, e⟩
  ·obtain ⟨h1, h2, h3, h4, h5, h6, h7, h8, h9⟩ := may_true hm; unfold sz; omega
  ·exact absurd e (by decide)
 obtain ⟨Z, hZ⟩ : ∃ Z, Z = yy N c L F := ⟨_, rfl⟩
 rw [<- hZ] at ht
 have HOK : Hid (∀ j, j < 2 * N -> (Z j).ce = 0 -> tB (Z j) kd v = false) := fun j hj e => by
  rw [hZ] at e ⊢
  rcases yy_ok N c L F j hj with a | a
  ·rw [a]; unfold tB zSl
   exact decide_eq_false fun b => by rcases hk with rfl | rfl <;> exact absurd b.1 (by decide)
  ·exact absurd e (ok_of a.1).ne
 have HNO : Hid ((∀ j, j < 2 * N -> tB (Z j) kd v = false) -> t = zSl) := fun g => by
  rw [<- ht, hZ]
  rcases tS_is (v := v) hk (yy_ok N c L F) (2 * N) (Nat.le_refl _) with ⟨a, _⟩ | ⟨j, hj, _, a3, _⟩
  ·exact a
  ·rw [<- hZ] at a3; rw [g j hj] at a3; cases a3
 have HYES : Hid (∀ j, j < 2 * N -> (∀ l, l < j -> tB (Z l) kd v = false) -> tB (Z j) kd v = true -> t = Z j) := fun j hj g1 g2 => by
  rw [<- ht]
  have e : tS Z kd v (j + 1) = Z j := by
   have hz : ∀ m, m <= j -> tS Z kd v m = zSl := fun m => by
    induction m with
    | zero => exact fun _ => rfl
    | succ m ih => intro hm; rw [tS, ih (by omega), if_pos (show zSl.ce = 0 from rfl), if_neg (by rw [g1 m (by omega)]; decide)]
   rw [tS, hz j (Nat.le_refl _), if_pos (show zSl.ce = 0 from rfl), if_pos g2]
  rw [tS_stay (m := j + 1) ?_ (by omega), e]
  rw [e]
  intro a
  have := HOK.out j hj a
  rw [g2] at this; cases this
 have HP : Hid (∀ i s, i < N -> s < 2 -> ∀ u, Below w.heap.size w u -> Calls Tryz.prog 135 #[.agg #[.int .i64 k, .int .i64 r, .int .i64 c, .int .i64 q], .slice (A (2 * i + s)) (L (2 * i + s)) (C (2 * i + s)), .int .i64 (i : Int)] u fun e w' => ∃ ao ca bo cb, e = .returned (.tuple #[.agg #[.int .u8 (((Z (2 * i + s)).kd.toNat : Nat) : Int), .int .i64 (Z (2 * i + s)).ix, .int .i64 (Z (2 * i + s)).ce, .int .i64 (Z (2 * i + s)).st, .slice ao (Z (2 * i + s)).vn ca, .slice bo (Z (2 * i + s)).dn cb], .bool (decide (¬ (Z (2 * i + s)).ce = 0))]) /\ Got u.heap.size w' (Z (2 * i + s)) ao ca bo cb /\ Below u.heap.size u w') := fun i s hi hs u hu => by
  have hl : L (2 * i + s) <= 9223372036854775807 := by have := hL (2 * i + s) (by omega); omega
  have := Of_any h u _ _ _ _ ((hr.bec (2 * i + s) (by omega)).below hu) hl (i : Int) (Z (2 * i + s)) (by rw [hZ]; unfold yy; rw [show (2 * i + s) / 2 = i by omega])
  unfold slv at this
  exact this
 obtain ⟨w0, hw0⟩ : ∃ w0, w0 = w.alloc (.cells #[.int .i64 k, .int .i64 r, .int .i64 c, .int .i64 q] 23) := ⟨_, rfl⟩
 have B0 : Hid (Below w.heap.size w w0) := by show Below _ _ _; rw [hw0]; exact bal _ _
 have L0 : Hid (∀ v, Below w0.heap.size w0 v -> At w v w.heap.size #[.int .i64 k, .int .i64 r, .int .i64 c, .int .i64 q] 23) := fun v hv => (at_made (Below.refl _ _) hw0).below hv
 have HR : Hid (Rw w ro N A L C F) := hr
 clear h hr hL ht hZ hsz hk
 unfold AnsW
 go_enter Tryz.func70, Tryz.ntmps70
 go_wp2_with fail
 rw [<- hw0]
 clear hw0
 go_loopw [9] (fun y wr => ∃ i : Nat, i <= N /\ y = .int .i64 (i : Int) /\ Hid (Below w0.heap.size w0 wr) /\ Hid (∀ j, j < 2 * i -> tB (Z j) kd v = false)) (fun y _ => N - (intOf y).toNat)
 case atStart => exact ⟨0, Nat.zero_le _, rfl, Below.refl _ _, fun j hj => absurd hj (by omega)⟩
 case round =>
  obtain ⟨i, hi, rfl, hbw, hno⟩ := hrel
  by_cases hlt : i < N
  ·obtain ⟨b, off, rfl, hcc⟩ := HR.out.at_ (by omega)
   have i1 : (0 : Int) <= (i : Int) := by omega
   have i2 : (i : Int) < (N : Int) := by omega
   have HCC : Hid (w.cell? ⟨b, off + i * 2, none⟩ = some (.slice (A (2 * i)) (L (2 * i)) (C (2 * i))) /\ w.cell? ⟨b, off + i * 2 + 1, none⟩ = some (.slice (A (2 * i + 1)) (L (2 * i + 1)) (C (2 * i + 1)))) := hcc i hlt
   have HBW : Hid (Below w0.heap.size w0 wr) := hbw.out
   clear hcc
   go_wp2_with fail
   obtain ⟨wm, hwm⟩ : ∃ x, x = wr := ⟨wr, rfl⟩
   rw [<- hwm] at HBW ⊢
   clear hwm hbw wr
   go_loopw [10] (fun y wr => ∃ s : Nat, s <= 2 /\ y = .int .i64 (s : Int) /\ Hid (Below w0.heap.size w0 wr) /\ Hid (∀ j, j < 2 * i + s -> tB (Z j) kd v = false)) (fun y _ => 2 - (intOf y).toNat)
   case atStart => exact ⟨0, Nat.zero_le _, rfl, HBW.out, fun j hj => hno.out j (by omega)⟩
   case round =>
    obtain ⟨s, hs, rfl, hbs, hns⟩ := hrel
    by_cases hs2 : s < 2
    ·have CHH : Hid (∀ v, Below wr.heap.size wr v -> (v.cell? ⟨w.heap.size, 0, none⟩ = some (.int .i64 k) /\ v.cell? ⟨w.heap.size, 1, none⟩ = some (.int .i64 r) /\ v.cell? ⟨w.heap.size, 2, none⟩ = some (.int .i64 c) /\ v.cell? ⟨w.heap.size, 3, none⟩ = some (.int .i64 q) /\ v.cell? ⟨b, off + i * 2 + s, none⟩ = some (.slice (A (2 * i + s)) (L (2 * i + s)) (C (2 * i + s))))) := fun v hv => by
      have p := L0.out v (bth hbs.out hv)
      refine ⟨p.cell (i := 0) rfl, p.cell (i := 1) rfl, p.cell (i := 2) rfl, p.cell (i := 3) rfl, ?_⟩
      refine held ?_ (bth (bth B0.out hbs.out) hv)
      rcases (show s = 0 \/ s = 1 by omega) with rfl | rfl
      ·exact HCC.out.1
      ·exact HCC.out.2
     have j1 : (s : Int) < 2 := by omega
     have hP := fun u (hu : Below wr.heap.size wr u) => HP.out i s hlt hs2 u (bth (bth B0.out hbs.out) hu)
     obtain ⟨y, hy⟩ : ∃ y, y = Z (2 * i + s) := ⟨_, rfl⟩
     rw [<- hy] at hP
     have HY : Hid (y = Z (2 * i + s)) := hy
     have nxt : tB y kd v = false -> Hid (∀ j, j < 2 * i + (s + 1) -> tB (Z j) kd v = false) := fun e j hj => by
      by_cases g : j = 2 * i + s
      ·rw [g, <- HY.out]; exact e
      ·exact hns.out j (by omega)
     have z0 : y.ce = 0 -> tB y kd v = false := fun e => by rw [hy] at e ⊢; exact HOK.out _ (by omega) e
     clear hy
     go_wp2_with fail
     refine told_reg wr k r c q w.heap.size b off N rc i s hs2 i1 i2 (A (2 * i + s)) (L (2 * i + s)) (C (2 * i + s)) y (decide (¬ y.ce = 0)) _ _ _ _ _ _ _ _ _ _ _ _ _ _ _ _ _ _ _ _ _ _ _ _ _ _ _ _ _ _ _ _ _ _ _ _ _ _ _ _ _ _ _ _ _ _ CHH hP _ (fun v' g ao ca bo cb hb3 hat hgot => ?_)
     have t0 := hat.cell (i := 0) rfl
     have t3 := hat.cell (i := 3) rfl
     have t4 := hat.cell (i := 4) rfl
     have HB3 : Hid (Below w0.heap.size w0 v') := bth hbs.out hb3
     have HG : Hid (Own wr.heap.size v' ao y.vn ca y.V) := hgot.vec
     have HS3 : Hid (w.heap.size <= wr.heap.size) := (bth B0.out hbs.out).size
     clear hat hb3 hgot hP
     by_cases z : y.ce = 0
     ·have X := nxt (z0 z)
      rw [decide_eq_false (fun a => a z)]
      clear nxt z0 z
      go_wp2_with fail
      go_roundw
      case rel => exact ⟨s + 1, by omega, by go_num, HB3.out, X.out⟩
      case measure => simp [intOf]; omega
     ·rw [decide_eq_true z]
      have e1 := kd_beq y.kd kd
      by_cases g1 : y.kd = kd
      ·rw [decide_eq_true g1] at e1
       by_cases g2 : y.st = v
       ·have e2 : (y.st == v) = true := by simp [g2]
        obtain rfl : t = y := by
         rw [HY.out]
         exact HYES.out (2 * i + s) (by omega) hns.out (by rw [<- HY.out]; exact decide_eq_true ⟨g1, g2⟩)
        clear nxt z0 z g1 g2
        go_wp2_with fail
        go_ret
        exact ⟨ao, ca, rfl, HG.out.mono HS3.out, bth B0.out HB3.out⟩
       ·have e2 : (y.st == v) = false := by simp [g2]
        have X := nxt (decide_eq_false fun a => g2 a.2)
        clear nxt z0 z g1 g2
        go_wp2_with fail
        go_roundw
        case rel => exact ⟨s + 1, by omega, by go_num, HB3.out, X.out⟩
        case measure => simp [intOf]; omega
      ·rw [decide_eq_false g1] at e1
       have X := nxt (decide_eq_false fun a => g1 a.1)
       clear nxt z0 z g1
       go_wp2_with fail
       go_roundw
       case rel => exact ⟨s + 1, by omega, by go_num, HB3.out, X.out⟩
       case measure => simp [intOf]; omega
    ·have j1 : ¬ (s : Int) < 2 := by omega
     obtain rfl : s = 2 := by omega
     go_wp2_with fail
     go_roundw
     case rel => exact ⟨i + 1, by omega, by go_num, hbs.out, fun j hj => hns.out j (by omega)⟩
     case measure => simp [intOf]; omega
  ·obtain rfl : i = N := by omega
   obtain rfl : t = zSl := HNO.out hno.out
   go_wp2_with fail
   go_ret
   exact ⟨none, 0, rfl, own_nil _ _ _, bth B0.out hbw.out⟩
def Ans (w : World) (E : Int) (n : Nat) (F : Nat -> Int) (e : Ending) (w' : World) : Prop :=
  ∃ ao cap, e = .returned (.tuple #[.slice ao (lenE E n) cap, .int .i64 E]) /\ Own w.heap.size w' ao (lenE E n) cap F /\ Below w.heap.size w w'
theorem upto16 {n : Nat} (h : n <= 16) : n = 0 \/ n = 1 \/ n = 2 \/ n = 3 \/ n = 4 \/ n = 5 \/ n = 6 \/ n = 7 \/ n = 8 \/ n = 9 \/ n = 10 \/ n = 11 \/ n = 12 \/ n = 13 \/ n = 14 \/ n = 15 \/ n = 16 := by omega
theorem mul64_one (w : World) (n : Nat) (hn : n <= 16) : Calls Tryz.prog 295 #[.int .u64 1, .int .u64 (n : Int)] w fun e w' => e = .returned (.tuple #[.int .u64 0, .int .u64 (n : Int)]) /\ w' = w := by
 go_enter Tryz.func295, Tryz.ntmps295
 go_wp2
 go_ret2
 refine ⟨?_, rfl⟩
 rcases upto16 hn with rfl | rfl | rfl | rfl | rfl | rfl | rfl | rfl | rfl | rfl | rfl | rfl | rfl | rfl | rfl | rfl | rfl
 all_goals rfl
theorem mul_one (w : World) (n : Nat) (hn : n <= 16) : Calls Tryz.prog 219 #[.int .u64 1, .int .u64 (n : Int)] w fun e w' => e = .returned (.tuple #[.int .u64 0, .int .u64 (n : Int)]) /\ w' = w := by
 have HM := fun w => mul64_one w n hn
 go_enter Tryz.func219, Tryz.ntmps219
 go_wp2_with fail
 refine (HM _).mono ?_
 rintro e w' ⟨rfl, rfl⟩
 go_wp2_with fail
 go_ret2
 exact ⟨rfl, rfl⟩
def fil (v : Int) (N j : Nat) : List Value := List.replicate j (.int .i64 v) ++ List.replicate (N - j) (.int .i64 0)
theorem fil_length {v : Int} {N j : Nat} (h : j <= N) : (fil v N j).length = N := by unfold fil; simp; omega
theorem fil_get {v : Int} {N j i : Nat} (h : i < j) : (fil v N j)[i]? = some (.int .i64 v) := by
 unfold fil; rw [List.getElem?_append_left (by simpa using h), List.getElem?_replicate, if_pos h]
theorem fil_splice {v : Int} {N j c : Nat} (h : j + c <= N) : splice (fil v N j) j (List.replicate c (.int .i64 v)) = fil v N (j + c) := by
 unfold splice
 apply List.ext_getElem?
 intro i
 have e1 : ((fil v N j).take j).length = j := by rw [List.length_take, fil_length (by omega)]; omega
 by_cases h1 : i < j
 ·rw [List.getElem?_append_left (by omega), List.getElem?_take_of_lt h1, fil_get h1, fil_get (by omega)]
 ·rw [List.getElem?_append_right (by omega), e1]
  by_cases h2 : i < j + c
  ·rw [List.getElem?_append_left (by simp; omega), List.getElem?_replicate, if_pos (by omega), fil_get h2]
  ·rw [List.getElem?_append_right (by simp; omega), List.getElem?_drop, List.length_replicate]
   have : j + c + (i - j - c) = i := by omega
   rw [this]
   unfold fil
   rw [List.getElem?_append_right (by simp; omega), List.getElem?_append_right (by simp; omega), List.length_replicate, List.length_replicate, List.getElem?_replicate, List.getElem?_replicate]
   by_cases h3 : i < N
   ·rw [if_pos (by omega), if_pos (by omega)]
   ·rw [if_neg (by omega), if_neg (by omega)]
theorem fil_made (v : Int) (N : Nat) : madeCells #[.int .i64 0] N = (fil v N 0).toArray := by
 apply Array.ext'
 rw [toList_madeCells_one]
 simp [fil]
theorem own_fil {w : World} {B g N : Nat} {v : Int} (h : w.heap[g]? = some (.cells (fil v N N).toArray 3 (0, 0))) (hB : B <= g) (hN : N <= 16) : Own B w (some ⟨g, 0, none⟩) N N (fun _ => v) := by
 refine own_row (f := fun _ => .int .i64 v) ⟨_, h, by simp [fil], fun i hi => ?_⟩ hB (by omega) (fun _ _ => rfl)
 have := fil_get (v := v) (N := N) hi
 simpa using this
theorem repeat_any (w : World) (gx n : Nat) (v : Int) (hn : n <= 16) (h1 : 1 <= n) (hx : w.cell? ⟨gx, 0, none⟩ = some (.int .i64 v)) :
  Calls Tryz.prog 148 #[.slice (some ⟨gx, 0, none⟩) 1 1, .int .i64 (n : Int)] w fun e w' => ∃ g cap, e = .returned (.slice (some ⟨g, 0, none⟩) n cap) /\ Own w.heap.size w' (some ⟨g, 0, none⟩) n cap (fun _ => v) /\ Below w.heap.size w w' := by
 have HM := fun w => mul_one w n hn
 have hm := run_make_row' (P := Tryz.prog) 27 3 (.int .i64 0) 8 Tryz.underlying27 info3 rfl .i64 .i64 n (by omega) (by omega)
 rw [fil_made v] at hm
 have sz3 : (Tryz.prog.info? 3).map (·.size) = some 1 := by kernel_rfl
 obtain ⟨w1, hw1⟩ : ∃ w1, w1 = w.alloc (.cells (fil v n 0).toArray 3) := ⟨_, rfl⟩
 have hmw := hm w
 rw [<- hw1] at hmw
 have HG : Hid (w1.heap[w.heap.size]? = some (.cells (fil v n 0).toArray 3 (0, 0))) := by rw [hw1]; exact heap_alloc_new w _
 have HB : Hid (Below w.heap.size w w1) := by rw [hw1]; exact bal _ _
 have HX : Hid (w1.cell? ⟨gx, 0, none⟩ = some (.int .i64 v)) := held hx HB.out
 clear hm hw1 hx
 have c1 : (n : Int) <= 9223372036854775807 := by omega
 go_enter Tryz.func148, Tryz.ntmps148
 go_wp2_with fail
 refine (HM _).mono ?_
 rintro e w' ⟨rfl, hw'⟩
 obtain rfl := hw'.symm
 have hX1 : Hid (∀ j u, (List.replicate 1 (Value.int .i64 v))[j]? = some u -> w1.cell? ((⟨gx, 0, none⟩ : Addr).add j) = some u) := fun j u hu => by
  have hj : j < 1 := list_lt (by simp) hu
  obtain rfl : j = 0 := by omega
  rw [Addr.add_lit]
  have e : u = .int .i64 v := by simpa using hu.symm
  rw [e]; exact HX.out
 go_wp2_with (refine wpList_copy_splice (by rfl) (.tmp 31) (.tmp 32) 27 27 (by rfl) 3 Tryz.underlying27 sz3 (some ⟨w.heap.size, 0, none⟩) (some ⟨gx, 0, none⟩) n n 1 1 (by rfl) (by rfl) w.heap.size 0 (fil v n 0) 3 HG.out (List.replicate 1 (.int .i64 v)) (by show _ = min 1 n; rw [List.length_replicate]; omega) (by intro _; exact ⟨rfl, _, rfl, hX1.out⟩) (by rw [List.length_replicate, fil_length (Nat.zero_le _)]; omega) (by intro u hu; rw [List.eq_of_mem_replicate hu]; rfl) w.heap.size w HB.out (Nat.le_refl _) ?_; intro w2 HG2 hB2)
 have HG2' : Hid (w2.heap[w.heap.size]? = some (.cells (fil v n 1).toArray 3 (0, 0))) := by
  show _ = _
  rw [HG2.out, fil_splice (show 0 + 1 <= n by omega)]
 have HB2 : Hid (Below w.heap.size w w2) := hB2
 clear HG2 hB2 HG HB HX hX1 hmw HM
 simp only [decide_eq_false (show ¬ (n : Int) < 0 by omega), decide_eq_false (show ¬ (9223372036854775807 : Int) < (n : Int) by omega)]
 clear c1
 go_loopw [8] (fun x wr => ∃ j : Nat, 1 <= j /\ j <= n /\ x = .int .i64 (j : Int) /\ Hid (wr.heap[w.heap.size]? = some (.cells (fil v n j).toArray 3 (0, 0))) /\ Hid (Below w.heap.size w wr)) (fun x _ => n - (intOf x).toNat)
 case atStart => exact ⟨1, by omega, by omega, rfl, HG2'.out, HB2.out⟩
 case round =>
  obtain ⟨j, hj1, hj2, rfl, hrow, hbel⟩ := hrel
  by_cases hlt : j < n
  ·obtain ⟨c, hc1, hc2⟩ : ∃ c, c = Nat.min j (n - j) /\ 1 <= c := ⟨_, rfl, by show 1 <= min j (n - j); omega⟩
   have hc3 : j + c <= n := by have : c = min j (n - j) := hc1; omega
   have HC1 : Hid (c = Nat.min j (n - j)) := hc1
   have HSP : Hid (splice (fil v n j) j (List.replicate c (.int .i64 v)) = fil v n (j + c)) := fil_splice hc3
   have hcell : Hid (∀ i u, (List.replicate c (Value.int .i64 v))[i]? = some u -> wr.drew.cell? ((⟨w.heap.size, 0, none⟩ : Addr).add i) = some u) := fun i u hu => by
    have hi : i < c := list_lt (by simp) hu
    have hcj : c <= j := by rw [hc1]; exact Nat.min_le_left _ _
    rw [Addr.add_lit, show (wr.drew.cell? ⟨w.heap.size, 0 + i, none⟩) = wr.cell? ⟨w.heap.size, 0 + i, none⟩ from rfl, cell_of_row _ _ _ _ _ _ hrow.out]
    have e : u = .int .i64 v := by rw [List.getElem?_replicate, if_pos hi] at hu; exact (Option.some.inj hu).symm
    have := fil_get (v := v) (N := n) (show 0 + i < j by omega)
    rw [e]; simpa using this
   have hg1 : wr.drew.heap[w.heap.size]? = some (.cells (fil v n j).toArray 3 (0, 0)) := hrow.out
   have HFL : Hid ((fil v n j).length = n) := fil_length hj2
   have j1 : (0 : Int) <= (j : Int) := by omega
   have j2 : (j : Int) <= (n : Int) := by omega
   have j3 : ¬ n = j := by omega
   have HG1 : Hid (wr.drew.heap[w.heap.size]? = some (.cells (fil v n j).toArray 3 (0, 0))) := hg1
   clear hg1 hc1
   go_wp2_with fail
   have hwr : IntKind.i64.wrap ((j : Int) + (c : Int)) = (j : Int) + (c : Int) := by rw [IntKind.wrap_i64]; omega
   go_region_held3 (fun _ => True) (go_keep) ((refine step_copy_splice rfl (.tmp 41) (.tmp 44) 27 27 rfl 3 Tryz.underlying27 sz3 (some ⟨w.heap.size, j, none⟩) (some ⟨w.heap.size, 0, none⟩) (n - j) (n - j) j n (by simp [Act.eval]) (by simp [Act.eval]) w.heap.size j (fil v n j) 3 HG1.out (List.replicate c (.int .i64 v)) (by rw [List.length_replicate]; exact HC1.out) (by intro _; exact ⟨rfl, _, rfl, hcell.out⟩) (by rw [List.length_replicate, HFL.out]; exact hc3) (by intro u hu; rw [List.eq_of_mem_replicate hu]; rfl) w.heap.size w (hbel.out.drew) (Nat.le_refl _) ?_; intro w4 hg4 hb4))
   have HG5 : Hid (w4.heap[w.heap.size]? = some (.cells (fil v n (j + c)).toArray 3 (0, 0))) := by show _ = _; rw [<- HSP.out]; exact hg4.out
   have HB5 : Hid (Below w.heap.size w w4) := hb4
   clear hg4 hb4 hcell HG1
   go_wp2
   go_roundw
   case rel => exact ⟨j + c, by omega, hc3, by go_num, HG5.out, HB5.out⟩
   case measure => simp [intOf]; omega
  ·obtain rfl : j = n := by omega
   go_wp2
   go_ret
   exact ⟨_, _, rfl, own_fil hrow.out (Nat.le_refl _) hn, hbel.out⟩
theorem All_any {k r c q : Int} {N W : Nat} {x : Int} (h : Par k r c q N W x) (v : Int) (w : World) (E : Int) (hE : erA x v = E) :
  Calls Tryz.prog 82 #[.agg #[.int .i64 k, .int .i64 r, .int .i64 c, .int .i64 q], .int .i64 v] w (Ans w E N (fun _ => v)) := by
 have HD := fun w => Drives_any h w
 have hx := h.err
 have hf := h.few
 have hs := h.some
 have HV := fun w => noVersion_any v w
 clear h
 obtain ⟨w0, hw0⟩ : ∃ w0, w0 = w.alloc (.cells #[.int .i64 k, .int .i64 r, .int .i64 c, .int .i64 q] 23) := ⟨_, rfl⟩
 have b0 : Below w.heap.size w w0 := by rw [hw0]; exact bal _ _
 unfold Ans
 rcases hx with rfl | rfl
 ·cases hv : verB v
  ·obtain rfl : E = 70 := by rw [<- hE]; unfold erA; rw [if_pos rfl, if_neg (by rw [hv]; decide)]
   rw [hv] at HV
   rw [lenE_ne N (show (70 : Int) ≠ 0 by decide)]
   clear hE hv hs
   go_enter Tryz.func82, Tryz.ntmps82
   go_wp2_with fail
   rw [<- hw0]
   refine (HD _).mono ?_
   rintro e wa ⟨rfl, ha⟩
   have hb := bth b0 ha
   clear hw0
   go_wp2_with fail
   refine (HV _).mono ?_
   rintro e w' ⟨rfl, rfl⟩
   go_wp2_with fail
   go_ret2
   exact ⟨_, _, rfl, own_nil _ _ _, hb⟩
  ·obtain rfl : E = 0 := by rw [<- hE]; unfold erA; rw [if_pos rfl, if_pos hv]
   rw [hv] at HV
   rw [lenE_zero]
   have h1 := hs rfl
   have HR := fun w gx hx => repeat_any w gx N v hf h1 hx
   clear hE hv hs
   go_enter Tryz.func82, Tryz.ntmps82
   go_wp2_with fail
   rw [<- hw0]
   refine (HD _).mono ?_
   rintro e wa ⟨rfl, ha⟩
   have hb := bth b0 ha
   clear hw0
   go_wp2_with fail
   refine (HV _).mono ?_
   rintro e w' ⟨rfl, hw'⟩
   obtain rfl := hw'
   go_wp2_with fail
   refine (HR _ w'.heap.size ?_).mono ?_
   ·rw [cell_of_row _ _ _ _ _ _ (heap_alloc_new w' _)]; rfl
   rintro e wb ⟨g, cap, rfl, hown, hb2⟩
   have hb3 := bth hb (bth (bal _ _) hb2)
   go_wp2_with fail
   go_ret2
   exact ⟨_, _, rfl, hown.mono (by have := hb.size; simp; omega), hb3⟩
 ·obtain rfl : E = 2 := by rw [<- hE]; unfold erA; rw [if_neg (by decide)]
  rw [lenE_ne N (show (2 : Int) ≠ 0 by decide)]
  clear hE hs
  go_enter Tryz.func82, Tryz.ntmps82
  go_wp2_with fail
  rw [<- hw0]
  refine (HD _).mono ?_
  rintro e wa ⟨rfl, ha⟩
  have hb := bth b0 ha
  clear hw0
  go_wp2_with fail
  go_ret2
  exact ⟨_, _, rfl, own_nil _ _ _, hb⟩
end Go.Proofs.YtemlojjkokooeaaGreat
