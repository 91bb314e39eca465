import Derived.Laws.AppendOwnNone
import Derived.Laws.OwnMore
import Derived.Deep.AppendLies
import Derived.Deep.OwnRows
import Derived.Test.YtngcdlodcdgcaaaGreatZk1
namespace Go.Proofs.YtngcdlodcdgcaaaGreat
def verB (v : Int) : Bool := decide (1 <= v /\ v <= 1073741824)
def vok (N n : Nat) (R : Nat -> Int) : Bool := decide (n = N /\ ∀ i, i < n -> 1 <= R i /\ R i <= 1073741824)
def erV (x : Int) (N n : Nat) (R : Nat -> Int) : Int := if x = 0 then (if vok N n R = true then 0 else 70) else x
def lenE (e : Int) (n : Nat) : Nat := if e = 0 then n else 0
def gr (a b : Int) : Int := if a < b then b else a
def mx (R : Nat -> Int) : Nat -> Int
  | 0 => 0
  | k + 1 => gr (mx R k) (R k)
def anyB (n : Nat) (P : Nat -> Bool) : Bool := !decide (∀ i, i < n -> P i = false)
def put {α : Type} (i : Nat) (v : α) (R : Nat -> α) : Nat -> α := fun j => if j = i then v else R j
theorem put_at {α : Type} (i : Nat) (v : α) (R : Nat -> α) : put i v R i = v := if_pos rfl
theorem put_ne {α : Type} {i j : Nat} (v : α) (R : Nat -> α) (h : j ≠ i) : put i v R j = R j := if_neg h
theorem erV_of {x : Int} {N n : Nat} {R : Nat -> Int} (h : erV x N n R = 0) : x = 0 /\ n = N /\ ∀ i, i < n -> 1 <= R i /\ R i <= 1073741824 := by
  unfold erV at h
  by_cases hx : x = 0
  · rw [if_pos hx] at h
    by_cases hv : vok N n R = true
    · exact ⟨hx, of_decide_eq_true hv⟩
    · rw [if_neg hv] at h; cases h
  · rw [if_neg hx] at h; exact absurd h hx
theorem erV_ok {N n : Nat} {R : Nat -> Int} (h : n = N) (h1 : ∀ i, i < n -> 1 <= R i /\ R i <= 1073741824) : erV 0 N n R = 0 := by
  unfold erV; rw [if_pos rfl, if_pos (show vok N n R = true from decide_eq_true ⟨h, h1⟩)]
theorem erV_x {x : Int} {N n : Nat} {R : Nat -> Int} (h : x ≠ 0) : erV x N n R = x := by unfold erV; rw [if_neg h]
theorem erV_70 {N n : Nat} {R : Nat -> Int} (h : ¬ (n = N /\ ∀ i, i < n -> 1 <= R i /\ R i <= 1073741824)) : erV 0 N n R = 70 := by
  unfold erV; rw [if_pos rfl, if_neg (show ¬ vok N n R = true from fun e => h (of_decide_eq_true e))]
theorem lenE_zero (n : Nat) : lenE 0 n = n := if_pos rfl
theorem lenE_ne {e : Int} (n : Nat) (h : e ≠ 0) : lenE e n = 0 := if_neg h
theorem mx_one {R : Nat -> Int} (h : 1 <= R 0) : mx R 1 = R 0 := by
  show gr 0 (R 0) = R 0
  unfold gr; rw [if_pos (by omega)]
theorem first_bad {p : Nat -> Prop} : ∀ i, ¬ p i -> ∃ k, k <= i /\ ¬ p k /\ ∀ j, j < k -> p j := by
  intro i
  induction i using Nat.strongRecOn with
  | ind i ih =>
    intro hi
    by_cases h : ∀ j, j < i -> p j
    · exact ⟨i, Nat.le_refl _, hi, h⟩
    · obtain ⟨j, hj⟩ := Classical.not_forall.1 h
      obtain ⟨h1, h2⟩ := Classical.not_imp.1 hj
      obtain ⟨k, h3, h4⟩ := ih j h1 h2
      exact ⟨k, by omega, h4⟩
theorem first_not {p : Nat -> Prop} {n : Nat} (h : ¬ ∀ i, i < n -> p i) : ∃ q, q < n /\ ¬ p q /\ ∀ i, i < q -> p i := by
  obtain ⟨i, hi⟩ := Classical.not_forall.1 h
  obtain ⟨p1, p2⟩ := Classical.not_imp.1 hi
  obtain ⟨k, hk, p3, p4⟩ := first_bad (p := p) i p2
  exact ⟨k, by omega, p3, p4⟩
end Go.Proofs.YtngcdlodcdgcaaaGreat
namespace Go.Proofs.YtngcdlodcdgcaaaGreat
open Go.RowKit
def RdI (w : World) (ao : Option Addr) (n : Nat) (R : Nat -> Int) : Prop :=
  0 < n -> ∃ b off, ao = some ⟨b, off, none⟩ /\ ∀ i, i < n -> w.cell? ⟨b, off + i, none⟩ = some (.int .i64 (R i))
theorem RdI.below {w w' : World} {ao : Option Addr} {n : Nat} {R : Nat -> Int} (h : RdI w ao n R) (ho : Below w.heap.size w w') : RdI w' ao n R := by
  intro hn
  obtain ⟨b, off, rfl, hc⟩ := h hn
  exact ⟨b, off, rfl, fun i hi => held (hc i hi) ho⟩
structure Vec (w : World) (ao : Option Addr) (n cap : Nat) (R : Nat -> Int) : Prop where
  rd : RdI w ao n R
  nil : ao = none -> n = 0 /\ cap = 0
  room : n <= cap
theorem Vec.below {w w' : World} {ao : Option Addr} {n cap : Nat} {R : Nat -> Int} (h : Vec w ao n cap R) (ho : Below w.heap.size w w') : Vec w' ao n cap R := ⟨h.rd.below ho, h.nil, h.room⟩
theorem vec_nil (w : World) (R : Nat -> Int) : Vec w none 0 0 R := ⟨fun h => absurd h (Nat.lt_irrefl 0), fun _ => ⟨rfl, rfl⟩, Nat.le_refl _⟩
def zOf (n : Nat) (R : Nat -> Int) : List Value := (List.range n).map fun i => .int .i64 (R i)
theorem zOf_length (k : Nat) (R : Nat -> Int) : (zOf k R).length = k := by simp [zOf]
theorem zOf_get (k : Nat) (R : Nat -> Int) (i : Nat) (h : i < k) : (zOf k R)[i]? = some (.int .i64 (R i)) := by simp [zOf, h]
theorem zOf_congr {k : Nat} {R S : Nat -> Int} (h : ∀ i, i < k -> R i = S i) : zOf k R = zOf k S := by
  unfold zOf
  apply List.map_congr_left
  intro i hi
  rw [h i (List.mem_range.1 hi)]
theorem list_lt {α : Type} {l : List α} {n i : Nat} {x : α} (hl : l.length = n) (h : l[i]? = some x) : i < n := by
  rcases Nat.lt_or_ge i n with g | g
  · exact g
  · rw [List.getElem?_eq_none (by omega)] at h; cases h
theorem zOf_set {n i : Nat} (R : Nat -> Int) (v : Int) : (zOf n R).set i (.int .i64 v) = zOf n (put i v R) := by
  apply List.ext_getElem?
  intro j
  rw [List.getElem?_set]
  by_cases hj : j < n
  · rw [zOf_get n (put i v R) _ hj]
    by_cases e : i = j
    · subst e; rw [if_pos rfl, if_pos (by rw [zOf_length]; exact hj), put_at]
    · rw [if_neg e, zOf_get _ _ _ hj, put_ne _ _ (fun h => e h.symm)]
  · by_cases e : i = j
    · subst e; rw [if_pos rfl, if_neg (by rw [zOf_length]; exact hj), List.getElem?_eq_none (by rw [zOf_length]; omega)]
    · rw [if_neg e, List.getElem?_eq_none (by rw [zOf_length]; omega), List.getElem?_eq_none (by rw [zOf_length]; omega)]
def Own (B : Nat) (w : World) (ao : Option Addr) (n cap : Nat) (R : Nat -> Int) : Prop := w.ownsRow B 3 1 (.slice ao n cap) n (zOf n R)
theorem own_nil (B : Nat) (w : World) (R : Nat -> Int) : Own B w none 0 0 R := World.ownsRow_nil _ _ _ _
theorem Own.congr {B : Nat} {w : World} {ao : Option Addr} {n cap : Nat} {R S : Nat -> Int} (h : Own B w ao n cap R) (e : ∀ i, i < n -> R i = S i) : Own B w ao n cap S := by
  unfold Own at *; rw [<- zOf_congr e]; exact h
theorem Own.vec {B : Nat} {w : World} {ao : Option Addr} {n cap : Nat} {R : Nat -> Int} (h : Own B w ao n cap R) : Vec w ao n cap R := by
  have h0 := h
  rcases h.2 with ⟨h1, h2⟩ | ⟨g, cap', cur, h1, _, _, h4, _⟩
  · cases h1; exact vec_nil _ _
  · cases h1
    refine ⟨fun hp => ⟨g, 0, rfl, fun i hi => ?_⟩, (fun e => by cases e), h4⟩
    have := World.ownsRow.cells h0 (g := g) rfl i _ (zOf_get n R i hi)
    rwa [Addr.add_lit] at this
theorem Own.at_ {B : Nat} {w : World} {ao : Option Addr} {n cap : Nat} {R : Nat -> Int} (h : Own B w ao n cap R) (hn : 0 < n) : ∃ g, ao = some ⟨g, 0, none⟩ /\ B <= g /\ g < w.heap.size := by
  obtain ⟨g, cap', e, h1, h2⟩ := World.ownsRow.form h hn
  cases e; exact ⟨g, rfl, h1, h2⟩
theorem Own.stay {B : Nat} {w w' : World} {ao : Option Addr} {n cap : Nat} {R : Nat -> Int} (h : Own B w ao n cap R) (hb : ∀ g, B <= g -> g < w.heap.size -> w'.heap[g]? = w.heap[g]?) : Own B w' ao n cap R := by
  refine ⟨h.1, ?_⟩
  rcases h.2 with h1 | ⟨g, cap', cur, h1, h2, h3, h4⟩
  · exact .inl h1
  · exact .inr ⟨g, cap', cur, h1, h2, by rw [hb g h2 (by rcases Nat.lt_or_ge g w.heap.size with l | l; exact l; rw [Array.getElem?_eq_none l] at h3; cases h3)]; exact h3, h4⟩
theorem Own.below {B : Nat} {w w' : World} {ao : Option Addr} {n cap : Nat} {R : Nat -> Int} (h : Own B w ao n cap R) (hb : Below w.heap.size w w') : Own B w' ao n cap R := h.stay fun g _ hg => hb.block g hg
theorem Own.mono {B B' : Nat} {w : World} {ao : Option Addr} {n cap : Nat} {R : Nat -> Int} (h : Own B w ao n cap R) (hb : B' <= B) : Own B' w ao n cap R := by
  refine ⟨h.1, ?_⟩
  rcases h.2 with h1 | ⟨g, cap', cur, h1, h2, h3⟩
  · exact .inl h1
  · exact .inr ⟨g, cap', cur, h1, by omega, h3⟩
theorem Own.set {B : Nat} {w : World} {g n cap : Nat} {R : Nat -> Int} (h : Own B w (some ⟨g, 0, none⟩) n cap R) (i : Nat) (v : Int) : Own B (w.setCell ⟨g, i, none⟩ (.int .i64 v)) (some ⟨g, 0, none⟩) n cap (put i v R) := by
  unfold Own at *; rw [<- zOf_set]; exact (World.ownsRow.stored h i _).1
theorem Own.cell {B : Nat} {w : World} {g n cap : Nat} {R : Nat -> Int} (h : Own B w (some ⟨g, 0, none⟩) n cap R) {i : Nat} (hi : i < n) : w.cell? ⟨g, i, none⟩ = some (.int .i64 (R i)) := by
  rw [World.ownsRow.cellAt h i (by omega), zOf_get _ _ _ hi]
theorem Own.free {B : Nat} {w : World} {g n cap : Nat} {R : Nat -> Int} (h : Own B w (some ⟨g, 0, none⟩) n cap R) (i : Nat) : w.frozen? ⟨g, i, none⟩ = false := World.ownsRow.frozenAt h i
theorem info3 : (Tryz.prog.info? 3).map (fun i => (i.zero, i.size, i.bytes)) = some (some (.int .i64 0), 1, 8) := by kernel_rfl
theorem info_parts {t : TypeId} {z : Value} {s b : Nat} (h : (Tryz.prog.info? t).map (fun i => (i.zero, i.size, i.bytes)) = some (some z, s, b)) : ∃ i, Tryz.prog.info? t = some i /\ i.zero = some z /\ i.size = s /\ i.bytes = b := by
  obtain ⟨i, hi, e⟩ := Option.map_eq_some_iff.1 h
  simp only [Prod.mk.injEq] at e
  exact ⟨i, hi, e.1, e.2.1, e.2.2⟩
theorem own_row {w : World} {B g n : Nat} {f : Nat -> Value} {R : Nat -> Int} (h : w.rowIs g 3 n f) (hB : B <= g) (hn : n <= 1000) (e : ∀ i, i < n -> f i = .int .i64 (R i)) : Own B w (some ⟨g, 0, none⟩) n n R := by
  obtain ⟨c, hb, hs, hc⟩ := h
  refine ⟨by rw [zOf_length, Nat.mul_one], .inr ⟨g, n, c, rfl, hB, hb, Nat.le_refl _, by unfold maxLen; omega, by rw [hs, Nat.mul_one], ?_⟩⟩
  apply List.ext_getElem?
  intro i
  by_cases hi : i < n
  · rw [List.getElem?_take_of_lt (by omega), zOf_get _ _ _ hi, Array.getElem?_toList, hc i hi, e i hi]
  · rw [List.getElem?_eq_none (by simp; omega), List.getElem?_eq_none (by rw [zOf_length]; omega)]
theorem below_drewN (B : Nat) (w : World) (n : Nat) : Below B w (w.drewN n) := ⟨rfl, rfl, rfl, Nat.le_refl _, fun _ _ => rfl⟩
end Go.Proofs.YtngcdlodcdgcaaaGreat
namespace Go.Proofs.YtngcdlodcdgcaaaGreat
open Go.RowKit
set_option maxHeartbeats 400000 in
theorem noVersion_any (v : Int) (w : World) : Calls Tryz.prog 126 #[.int .i64 v] w fun e w' => e = .returned (.bool (!verB v)) /\ w' = w := by
  have HV : Hid (verB v = decide (1 <= v /\ v <= 1073741824)) := rfl
  go_enter Tryz.func126, Tryz.ntmps126
  go_wp2
  all_goals (go_ret; refine ⟨ret_bool ?_, rfl⟩; rw [HV.out])
  · by_cases h : 1073741824 < v
    · rw [decide_eq_false (p := 1 <= v /\ v <= 1073741824) (by omega), decide_eq_false (p := v < 1) (by omega), decide_eq_true h]; rfl
    · rw [decide_eq_true (p := 1 <= v /\ v <= 1073741824) (by omega), decide_eq_false (p := v < 1) (by omega), decide_eq_false h]; rfl
  · rw [decide_eq_false (p := 1 <= v /\ v <= 1073741824) (by omega)]; rfl
def RuleB (w : World) (fn : Nat) (cp : Array Value) (n : Nat) (R : Nat -> Int) (P : Nat -> Bool) : Prop :=
  ∀ i, i < n -> Calls Tryz.prog fn (#[.int .i64 (R i)] ++ cp) w fun e w' => e = .returned (.bool (P i)) /\ w' = w
set_option maxHeartbeats 1000000 in
set_option maxRecDepth 100000 in
theorem indexF_any (w : World) (ao : Option Addr) (n ca fn : Nat) (cp : Array Value) (R : Nat -> Int) (P : Nat -> Bool) (hn : n <= 1000) (hfn : ∀ xs w, (callFunc fn xs).run Tryz.prog w = .ok (.enter fn xs) w) (hr : RdI w ao n R) (hf : RuleB w fn cp n R P) :
    Calls Tryz.prog 138 #[.slice ao n ca, .func (.func fn) #[] cp] w fun e w' => ∃ x : Int, e = .returned (.int .i64 x) /\ decide (0 <= x) = anyB n P /\ w' = w := by
  have HR : Hid (RdI w ao n R) := hr
  have HF : Hid (RuleB w fn cp n R P) := hf
  clear hr hf
  by_cases hall : ∀ i, i < n -> P i = false
  · have HB : Hid (anyB n P = false) := by show _ = _; unfold anyB; rw [decide_eq_true hall]; rfl
    have HA : Hid (∀ i, i < n -> P i = false) := hall
    clear hall
    go_enter Tryz.func138, Tryz.ntmps138
    go_wp2
    go_loop [8] (fun x => ∃ i : Nat, i <= n /\ x = .int .i64 i) (fun x => n - (intOf x).toNat)
    case atStart => exact ⟨0, Nat.zero_le _, rfl⟩
    case round =>
      obtain ⟨i, hi, rfl⟩ := hrel
      by_cases hlt : i < n
      · obtain ⟨b, off, rfl, hc⟩ := HR.out (by omega)
        have ck := hc i hlt
        have HC := HF.out i hlt
        rw [HA.out i hlt] at HC
        clear hc
        have i1 : (0 : Int) <= (i : Int) := by omega
        have i2 : (i : Int) < (n : Int) := by omega
        go_wp2_with fail
        refine HC.mono ?_
        rintro e w' ⟨rfl, rfl⟩
        go_wp2_with fail
        go_round
        case rel => exact ⟨i + 1, by omega, by go_num⟩
        case measure => simp [intOf]; omega
      · go_wp2
        go_ret
        exact ⟨_, rfl, by rw [HB.out]; rfl, rfl⟩
  · have HB : Hid (anyB n P = true) := by show _ = _; unfold anyB; rw [decide_eq_false hall]; rfl
    obtain ⟨q, hq, hne, heq⟩ := first_not hall
    have HE : Hid (∀ i, i < q -> P i = false) := heq
    have HN : Hid (P q = true) := by show _ = _; cases h : P q; exact absurd h hne; rfl
    clear hall hne heq
    go_enter Tryz.func138, Tryz.ntmps138
    go_wp2
    go_loop [8] (fun x => ∃ i : Nat, i <= q /\ x = .int .i64 i) (fun x => n - (intOf x).toNat)
    case atStart => exact ⟨0, Nat.zero_le _, rfl⟩
    case round =>
      obtain ⟨i, hi, rfl⟩ := hrel
      have hlt : i < n := by omega
      obtain ⟨b, off, rfl, hc⟩ := HR.out (by omega)
      have ck := hc i hlt
      have HC := HF.out i hlt
      clear hc
      have i1 : (0 : Int) <= (i : Int) := by omega
      have i2 : (i : Int) < (n : Int) := by omega
      by_cases hiq : i < q
      · rw [HE.out i hiq] at HC
        go_wp2_with fail
        refine HC.mono ?_
        rintro e w' ⟨rfl, rfl⟩
        go_wp2_with fail
        go_round
        case rel => exact ⟨i + 1, by omega, by go_num⟩
        case measure => simp [intOf]; omega
      · obtain rfl : i = q := by omega
        rw [HN.out] at HC
        go_wp2_with fail
        refine HC.mono ?_
        rintro e w' ⟨rfl, rfl⟩
        go_wp2_with fail
        go_ret
        exact ⟨_, rfl, by rw [HB.out]; simp, rfl⟩
set_option maxHeartbeats 1000000 in
theorem containsF_any (w : World) (ao : Option Addr) (n ca fn : Nat) (cp : Array Value) (R : Nat -> Int) (P : Nat -> Bool) (hn : n <= 1000) (hfn : ∀ xs w, (callFunc fn xs).run Tryz.prog w = .ok (.enter fn xs) w) (hr : RdI w ao n R) (hf : RuleB w fn cp n R P) :
    Calls Tryz.prog 125 #[.slice ao n ca, .func (.func fn) #[] cp] w fun e w' => e = .returned (.bool (anyB n P)) /\ w' = w := by
  have HX := indexF_any w ao n ca fn cp R P hn hfn hr hf
  clear hr hf hfn
  go_enter Tryz.func125, Tryz.ntmps125
  go_wp2_with (go_at_call 138; refine HX.mono ?_; rintro e w' ⟨x, rfl, hx, rfl⟩)
  go_ret
  exact ⟨by rw [<- hx]; rfl, rfl⟩
theorem any_noVersion {N n : Nat} {R : Nat -> Int} (h : n = N) : anyB n (fun i => !verB (R i)) = !vok N n R := by
  unfold anyB vok
  congr 1
  apply decide_eq_decide.2
  constructor
  · intro k
    refine ⟨h, fun i hi => ?_⟩
    have := k i hi
    have h2 : verB (R i) = true := by simpa using this
    exact of_decide_eq_true h2
  · rintro ⟨_, k⟩ i hi
    show (!verB (R i)) = false
    rw [show verB (R i) = true from decide_eq_true (k i hi)]; rfl
theorem Par.few {k r c q : Int} {N W : Nat} {e : Int} (h : Par k r c q N W e) : N <= 16 := by
  rcases h with ⟨h, _, h0, _⟩ | ⟨_, _, h0, _⟩
  · obtain ⟨h1, h2, h3, h4, h5, h6, h7, h8, h9⟩ := may_true h
    omega
  · omega
theorem Par.some {k r c q : Int} {N W : Nat} {e : Int} (h : Par k r c q N W e) (he : e = 0) : 1 <= N := by
  rcases h with ⟨h, _, h0, _⟩ | ⟨_, _, h0, h1⟩
  · obtain ⟨h1, h2, h3, h4, h5, h6, h7, h8, h9⟩ := may_true h
    omega
  · omega
set_option maxHeartbeats 1000000 in
set_option maxRecDepth 100000 in
theorem VCheck_any {k r c q : Int} {N W : Nat} {x : Int} (h : Par k r c q N W x) (w : World) (ao : Option Addr) (n ca : Nat) (R : Nat -> Int) (hv : Vec w ao n ca R) :
    Calls Tryz.prog 112 #[.agg #[.int .i64 k, .int .i64 r, .int .i64 c, .int .i64 q], .slice ao n ca] w fun e w' => e = .returned (.int .i64 (erV x N n R)) /\ Below w.heap.size w w' := by
  have HD := fun w => Drives_any h w
  have hx : x = 0 \/ x = 2 := by rcases h with ⟨_, _, _, h⟩ | ⟨_, _, _, h⟩; exact .inl h; exact .inr h
  have HV : Hid (RdI w ao n R) := hv.rd
  have hN : N <= 16 := h.few
  clear h hv
  obtain ⟨w0, hw0⟩ : ∃ w0, w0 = w.alloc (.cells #[.int .i64 k, .int .i64 r, .int .i64 c, .int .i64 q] 23) := ⟨_, rfl⟩
  have b0 : Below w.heap.size w w0 := by rw [hw0]; exact below_alloc _ _
  rcases hx with rfl | rfl
  · by_cases hnN : n = N
    · have HE : Hid (erV 0 N n R = if vok N n R = true then 0 else 70) := by show _ = _; unfold erV; rw [if_pos rfl]
      have HO := any_noVersion (R := R) hnN
      have HC := fun w (hr : RdI w ao n R) => containsF_any w ao n ca 126 #[] R (fun i => !verB (R i)) (by omega) (fun _ _ => rfl) hr (fun i _ => noVersion_any (R i) w)
      rw [HO] at HC
      clear HO
      subst hnN
      cases hok : vok n n R
      all_goals (
        rw [hok] at HC HE
        clear hok
        go_enter Tryz.func112, Tryz.ntmps112
        go_wp2_with fail
        rw [<- hw0]
        refine (HD _).mono ?_
        rintro e wa ⟨rfl, ha⟩
        have hb := below_then b0 ha
        have HR := HV.out.below hb
        clear hw0
        go_wp2_with fail
        refine (HC _ HR).mono ?_
        rintro e wb ⟨rfl, rfl⟩
        go_wp2_with fail
        go_ret
        exact ⟨ret_int (by rw [HE.out]; rfl), hb⟩)
    · have HE : Hid (erV 0 N n R = 70) := erV_70 fun h => hnN h.1
      go_enter Tryz.func112, Tryz.ntmps112
      go_wp2_with fail
      rw [<- hw0]
      refine (HD _).mono ?_
      rintro e wa ⟨rfl, ha⟩
      have hb := below_then b0 ha
      clear hw0
      go_wp2_with fail
      go_ret
      exact ⟨ret_int (by rw [HE.out]), hb⟩
  · have HE : Hid (erV 2 N n R = 2) := erV_x (by decide)
    go_enter Tryz.func112, Tryz.ntmps112
    go_wp2_with fail
    rw [<- hw0]
    refine (HD _).mono ?_
    rintro e wa ⟨rfl, ha⟩
    have hb := below_then b0 ha
    clear hw0
    go_wp2_with fail
    go_ret
    exact ⟨ret_int (by rw [HE.out]), hb⟩
def TellI (w : World) (E : Int) (v : Int) (e : Ending) (w' : World) : Prop := e = .returned (.tuple #[.int .i64 (if E = 0 then v else 0), .int .i64 E]) /\ Below w.heap.size w w'
set_option maxHeartbeats 1000000 in
set_option maxRecDepth 100000 in
theorem Last_any {k r c q : Int} {N W : Nat} {x : Int} (h : Par k r c q N W x) (w : World) (ao : Option Addr) (n ca : Nat) (R : Nat -> Int) (hv : Vec w ao n ca R) (E : Int) (hE : erV x N n R = E) :
    Calls Tryz.prog 96 #[.agg #[.int .i64 k, .int .i64 r, .int .i64 c, .int .i64 q], .slice ao n ca] w (TellI w E (mx R n)) := by
  have HC := fun w (hv : Vec w ao n ca R) => VCheck_any h w ao n ca R hv
  rw [hE] at HC
  have hs := h.some
  have HV : Hid (Vec w ao n ca R) := hv
  have hN : N <= 16 := h.few
  clear hv h
  obtain ⟨w0, hw0⟩ : ∃ w0, w0 = w.alloc (.cells #[.int .i64 k, .int .i64 r, .int .i64 c, .int .i64 q] 23) := ⟨_, rfl⟩
  have b0 : Below w.heap.size w w0 := by rw [hw0]; exact below_alloc _ _
  unfold TellI
  by_cases h1 : E = 0
  · subst h1
    obtain ⟨rfl, rfl, h4⟩ := erV_of hE
    rw [if_pos rfl]
    obtain ⟨l, rfl⟩ : ∃ l, n = l + 1 := ⟨n - 1, by have := hs rfl; omega⟩
    have HM : Hid (∀ i, i <= l -> mx R (i + 1) = gr (mx R i) (R i)) := fun _ _ => rfl
    have HM1 : Hid (mx R 1 = R 0) := mx_one (h4 0 (by omega)).1
    clear hE hs h4
    have hroom := HV.out.room
    by_cases hcap : ca = 1
    · obtain rfl : l = 0 := by omega
      subst hcap
      go_enter Tryz.func96, Tryz.ntmps96
      go_wp2_with fail
      rw [<- hw0]
      refine (HC _ (HV.out.below b0)).mono ?_
      rintro e wa ⟨rfl, ha⟩
      have hb := below_then b0 ha
      obtain ⟨b, off, rfl, hc⟩ := (HV.out.below hb).rd (by omega)
      have c0 := hc 0 (by omega)
      rw [Nat.add_zero] at c0
      clear hw0 hc
      go_wp2_with fail
      go_loop [7, 22] (fun v x => v = .int .i64 (R 0) /\ x = .int .i64 0) (fun _ _ => 0)
      case atStart => exact ⟨rfl, rfl⟩
      case round =>
        obtain ⟨rfl, rfl⟩ := hrel
        go_wp2
        go_ret2
        exact ⟨by rw [HM1.out]; rfl, hb⟩
    · go_enter Tryz.func96, Tryz.ntmps96
      go_wp2_with fail
      rw [<- hw0]
      refine (HC _ (HV.out.below b0)).mono ?_
      rintro e wa ⟨rfl, ha⟩
      have hb := below_then b0 ha
      obtain ⟨b, off, rfl, hc⟩ := (HV.out.below hb).rd (by omega)
      have c0 := hc 0 (by omega)
      rw [Nat.add_zero] at c0
      have HCC : Hid (∀ i, i < l + 1 -> wa.cell? ⟨b, off + i, none⟩ = some (.int .i64 (R i))) := hc
      have h1c : (1 : Int) <= ((l + 1 : Nat) : Int) := by omega
      have h2c : (1 : Int) <= (ca : Int) := by omega
      have HBB : Hid (Below w.heap.size w wa) := hb
      clear hw0 hc hb ha b0 HC
      go_wp2_with fail
      go_loop [7, 22] (fun v x => ∃ i : Nat, i <= l /\ x = .int .i64 (i : Int) /\ ∃ y, v = .int .i64 y /\ Hid (y = mx R (i + 1))) (fun _ x => l - (intOf x).toNat)
      case atStart => exact ⟨0, Nat.zero_le _, rfl, _, rfl, HM1.out.symm⟩
      case round =>
        obtain ⟨i, hi, rfl, y, rfl, hy⟩ := hrel
        by_cases hlt : i < l
        · have ck := HCC.out (i + 1) (by omega)
          rw [show off + (i + 1) = off + 1 + i by omega] at ck
          have i1 : (0 : Int) <= (i : Int) := by omega
          have i2 : (i : Int) < (l : Int) := by omega
          have HY : Hid (mx R (i + 1 + 1) = gr y (R (i + 1))) := by show _ = _; rw [HM.out (i + 1) (by omega), <- hy.out]
          by_cases hg : y < R (i + 1)
          · have HY2 : Hid (R (i + 1) = mx R (i + 1 + 1)) := by show _ = _; rw [HY.out]; unfold gr; rw [if_pos hg]
            go_wp2
            go_round
            case rel => exact ⟨i + 1, by omega, by go_num, _, rfl, HY2.out⟩
            case measure => simp [intOf]; omega
          · have HY2 : Hid (y = mx R (i + 1 + 1)) := by show _ = _; rw [HY.out]; unfold gr; rw [if_neg hg]
            go_wp2
            go_round
            case rel => exact ⟨i + 1, by omega, by go_num, _, rfl, HY2.out⟩
            case measure => simp [intOf]; omega
        · obtain rfl : i = l := by omega
          go_wp2
          go_ret2
          exact ⟨by rw [hy.out]; rfl, HBB.out⟩
  · have hne : (E != 0) = true := by simpa using h1
    rw [if_neg h1]
    clear hE h1 hs
    go_enter Tryz.func96, Tryz.ntmps96
    go_wp2_with fail
    rw [<- hw0]
    refine (HC _ (HV.out.below b0)).mono ?_
    rintro e wa ⟨rfl, ha⟩
    have hb := below_then b0 ha
    clear hw0
    go_wp2_with fail
    go_ret2
    exact ⟨rfl, hb⟩
end Go.Proofs.YtngcdlodcdgcaaaGreat
