/- Who counts, as lists of numbers; two lists without a common number. -/
import Derived.Test.YtmlnbnbgkpbjeaaCnJ
import Derived.BigQuiet
namespace Go.Proofs.Ytmlnbnbgkpbjeaa
open Go.RowKit Go.Maps Go.ChangeShapes

theorem split_en (p : Int → Bool) : ∀ l : List Int, (l.filter p = [] ∧ l.takeWhile (fun v => !p v) = l) ∨ ∃ a r, l = l.takeWhile (fun v => !p v) ++ a :: r ∧ p a = true ∧ l.filter p = a :: r.filter p
  | [] => .inl ⟨rfl, rfl⟩
  | x :: l => by
    cases hx : p x
    · have e1 : (x :: l).takeWhile (fun v => !p v) = x :: l.takeWhile (fun v => !p v) := by rw [List.takeWhile_cons, hx]; rfl
      have e2 : (x :: l).filter p = l.filter p := by rw [List.filter_cons, hx]; rfl
      rw [e1, e2]
      rcases split_en p l with ⟨h1, h2⟩ | ⟨a, r, h1, h2, h3⟩
      · exact .inl ⟨h1, by rw [h2]⟩
      · exact .inr ⟨a, r, by rw [List.cons_append, ← h1], h2, h3⟩
    · have e1 : (x :: l).takeWhile (fun v => !p v) = [] := by rw [List.takeWhile_cons, hx]; rfl
      have e2 : (x :: l).filter p = x :: l.filter p := by rw [List.filter_cons, hx]; rfl
      rw [e1, e2]
      exact .inr ⟨x, l, rfl, hx, rfl⟩
theorem mem_while {p : Int → Bool} {v : Int} : ∀ {l : List Int}, v ∈ l.takeWhile p → p v = true
  | [], h => absurd h (by simp)
  | x :: l, h => by
    rw [List.takeWhile_cons] at h
    cases hx : p x
    · rw [hx] at h; simp at h
    · rw [hx] at h
      rcases List.mem_cons.1 h with e | e
      · rw [e]; exact hx
      · exact mem_while e
/-- Of falling numbers above 0: those ahead of the first that counts, that one, those behind it. -/
structure Who (p : Int → Bool) (l ws ms : List Int) : Prop where
  big : ∀ v, v ∈ l → 1 ≤ v
  ahead : ∀ i v, l[i]? = some v → i < ms.length → p v = false ∧ ws.getD 0 0 < v ∧ ms[i]? = some v ∧ ws.getD 1 0 < v
  here : ∀ v, l[ms.length]? = some v → p v = true ∧ v = ws.getD 0 0 ∧ ws.getD 1 0 < v
  behind : ∀ i v, l[i]? = some v → ms.length < i → v < ws.getD 0 0 ∧ (p v = true → v = ws.getD 1 0 ∨ v < ws.getD 1 0) ∧ (p v = false → v ≠ ws.getD 1 0)
  few : ms.length ≤ l.length
  none : ws = [] → ms = l
  fall : ∀ i u v, l[i]? = some u → l[i + 1]? = some v → v < u
  two : ∀ a b r, ws = a :: b :: r → b < a
  sub : ∀ v, v ∈ ws → v ∈ l ∧ p v = true
theorem who_any {p : Int → Bool} {l : List Int} (hf : l.Pairwise (fun a b => b < a)) (hb : ∀ v, v ∈ l → 1 ≤ v) : Who p l (l.filter p) (l.takeWhile (fun v => !p v)) := by
  have hms : ∀ v, v ∈ l.takeWhile (fun v => !p v) → p v = false := fun v hv => by
    have := mem_while hv
    simpa using this
  have hpf : (l.filter p).Pairwise (fun a b => b < a) := hf.filter _
  have hfall : ∀ i u v, l[i]? = some u → l[i + 1]? = some v → v < u := fun i u v h1 h2 => by
    obtain ⟨i1, rfl⟩ := List.getElem?_eq_some_iff.1 h1
    obtain ⟨i2, rfl⟩ := List.getElem?_eq_some_iff.1 h2
    exact List.pairwise_iff_getElem.1 hf i (i + 1) i1 i2 (by omega)
  have hsub : ∀ v, v ∈ l.filter p → v ∈ l ∧ p v = true := fun v hv => by simpa using hv
  have htwo : ∀ a b r, l.filter p = a :: b :: r → b < a := fun a b r h => by
    rw [h] at hpf
    exact (List.pairwise_cons.1 hpf).1 b (by simp)
  rcases split_en p l with ⟨h1, h2⟩ | ⟨a, r, h1, h2, h3⟩
  · rw [h2]
    refine ⟨hb, fun i v hv _ => ?_, fun v hv => ?_, fun i v hv hi => ?_, Nat.le_refl _, fun _ => rfl, hfall, htwo, hsub⟩
    · have hm := List.mem_of_getElem? hv
      have := hb v hm
      rw [h1]
      refine ⟨?_, by simpa using by omega, hv, by simpa using by omega⟩
      cases hp : p v
      · rfl
      · have : v ∈ l.filter p := by simp [hm, hp]
        rw [h1] at this; cases this
    · rw [List.getElem?_eq_none (Nat.le_refl _)] at hv; cases hv
    · rw [List.getElem?_eq_none (by omega)] at hv; cases hv
  · obtain ⟨ms, hm⟩ : ∃ ms, ms = l.takeWhile (fun v => !p v) := ⟨_, rfl⟩
    rw [← hm] at h1 hms ⊢
    have hpw := hf
    rw [h1] at hpw
    obtain ⟨q1, q2, q3⟩ := List.pairwise_append.1 hpw
    obtain ⟨q4, q5⟩ := List.pairwise_cons.1 q2
    have e0 : (l.filter p).getD 0 0 = a := by rw [h3]; rfl
    have hr1 : (l.filter p).getD 1 0 = 0 ∨ (l.filter p).getD 1 0 ∈ r.filter p := by
      rw [h3]
      cases hc : r.filter p with
      | nil => exact .inl rfl
      | cons b t => exact .inr (by simp)
    have hr2 : (l.filter p).getD 1 0 < a := by
      rcases hr1 with e | e
      · rw [e]; have := hb a (by rw [h1]; simp); omega
      · exact q4 _ (List.mem_filter.1 e).1
    refine ⟨hb, fun i v hv hi => ?_, fun v hv => ?_, fun i v hv hi => ?_, by rw [h1]; simp, fun h => ?_, hfall, htwo, hsub⟩
    · rw [h1, List.getElem?_append_left hi] at hv
      have hvm := List.mem_of_getElem? hv
      have := q3 v hvm a (by simp)
      rw [e0]
      exact ⟨hms v hvm, this, hv, by omega⟩
    · rw [h1, List.getElem?_append_right (Nat.le_refl _), Nat.sub_self] at hv
      obtain rfl : a = v := by simpa using hv
      exact ⟨h2, e0.symm, hr2⟩
    · rw [h1, List.getElem?_append_right (by omega), show i - ms.length = (i - ms.length - 1) + 1 by omega, List.getElem?_cons_succ] at hv
      have hvm := List.mem_of_getElem? hv
      rw [e0]
      refine ⟨q4 v hvm, fun hp => ?_, fun hp e => ?_⟩
      · have hin : v ∈ r.filter p := by simp [hvm, hp]
        have hpr := hpf
        rw [h3] at hpr ⊢
        cases hc : r.filter p with
        | nil => rw [hc] at hin; cases hin
        | cons b t =>
          rw [hc] at hin hpr
          rcases List.mem_cons.1 hin with e | e
          · exact .inl e
          · exact .inr ((List.pairwise_cons.1 (List.pairwise_cons.1 hpr).2).1 v e)
      · rcases hr1 with e1 | e1
        · have := hb v (by rw [h1]; simp [hvm]); omega
        · rw [← e] at e1
          rw [(List.mem_filter.1 e1).2] at hp; cases hp
    · rw [h] at h3; cases h3
theorem who_row (k : Int) (P Q : Nat → Int) (n : Nat) (hP : ∀ i, 0 ≤ P i) (hQ : ∀ i, 0 ≤ Q i) : Who (enB k P Q n) (tvL P Q n) (wins k P Q n) (lost k P Q n) :=
  who_any (tvL_fall P Q n) fun v hv => by
    obtain ⟨h0, d, _, h2⟩ := mem_tvL.1 hv
    rcases h2 with e | e
    · have := hP d; omega
    · have := hQ d; omega
/-- Numbers that are read as a list. -/
theorem ints_rd {w : World} {B : Nat} {a : Option Addr} {n cap : Nat} {zs : List Int} (h : w.ownsInts B 3 .i64 (.slice a n cap) zs) : RdI w a n (fun i => zs.getD i 0) := by
  have hl := ints_len h
  intro hn
  obtain ⟨g, cp, e, _⟩ := ints_form h (fun e => by rw [e] at hl; simp at hl; omega)
  simp only [Value.slice.injEq] at e
  obtain ⟨rfl, _, rfl⟩ := e
  refine ⟨g, 0, rfl, fun i hi => ?_⟩
  have hr := h.1
  rw [← hl] at hr
  rw [Nat.zero_add, World.ownsRow.cellAt hr i (by omega), List.getElem?_map]
  show _ = some (Value.int IntKind.i64 (zs.getD i 0))
  rw [List.getD_eq_getElem?_getD, List.getElem?_eq_getElem (by omega)]
  rfl
set_option maxHeartbeats 4000000 in
set_option maxRecDepth 100000 in
theorem apart_any (w : World) (a : Option Addr) (n ca : Nat) (b : Option Addr) (m cb : Nat) (R S : Nat → Int) (ha : RdI w a n R) (hb : RdI w b m S) (hn : n ≤ 1000) (hm : m ≤ 1000) (hr : ∀ i, i + 1 < n → R i < R (i + 1)) (hd : ∀ i j, i < n → j < m → R i ≠ S j) :
    Calls Try.prog 21 #[.slice a n ca, .slice b m cb] w fun e w' => e = .returned (.bool true) ∧ Below w.heap.size w w' := by
  have HA : Hid (RdI w a n R) := ha
  have HB : Hid (RdI w b m S) := hb
  have HR : Hid (∀ i, i + 1 < n → R i < R (i + 1)) := hr
  have HD : Hid (∀ i j, i < n → j < m → R i ≠ S j) := hd
  clear ha hb hr hd
  go_enter Try.func21, Try.ntmps21
  go_wp2
  go_loopw [5] (fun y wr => ∃ i : Nat, i ≤ n ∧ y = .int .i64 (i : Int) ∧ Hid (Below w.heap.size w wr)) (fun y _ => n - (intOf y).toNat)
  case atStart => exact ⟨0, Nat.zero_le _, rfl, Below.refl _ _⟩
  case round =>
    obtain ⟨i, hi, rfl, hbw⟩ := hrel
    by_cases hlt : i < n
    · obtain ⟨g, off, rfl, hc⟩ := HA.out (by omega)
      have c0 : wr.cell? ⟨g, off + i, none⟩ = some (.int .i64 (R i)) := held (hc i hlt) hbw.out
      have i1 : (0 : Int) ≤ (i : Int) := by omega
      have i2 : (i : Int) < (n : Int) := by omega
      have HIN : Hid (∀ (v : World), Below w.heap.size w v → v.cell? ⟨g, off + i, none⟩ = some (.int .i64 (R i))) := fun v hv => held (hc i hlt) hv
      by_cases hz : i = 0
      · have i9 : ¬ (0 : Int) < (i : Int) := by omega
        have i8 : decide ((0 : Int) < (i : Int)) = false := decide_eq_false i9
        have i7 : ¬ 0 < i := by omega
        have i6 : decide (0 < i) = false := decide_eq_false i7
        clear hc hz
        go_wp2_with fail
        go_quiet (fail)
        obtain ⟨wq, hwq⟩ : ∃ wq, wq = wr.drewN nq := ⟨_, rfl⟩
        have BQ : Hid (Below w.heap.size w wq) := by show Below _ _ _; rw [hwq]; exact below_then hbw.out (below_drewN _ _ _)
        rw [← hwq]
        clear hwq c0
        go_wp2_with fail
        go_loopw [6] (fun y wr => ∃ j : Nat, j ≤ m ∧ y = .int .i64 (j : Int) ∧ Hid (Below w.heap.size w wr)) (fun y _ => m - (intOf y).toNat)
        case atStart => exact ⟨0, Nat.zero_le _, rfl, BQ.out⟩
        case round =>
          obtain ⟨j, hj, rfl, hbj⟩ := hrel
          by_cases hjm : j < m
          · obtain ⟨g2, off2, rfl, hc2⟩ := HB.out (by omega)
            have c0 := HIN.out wr hbj.out
            have c1 : wr.cell? ⟨g2, off2 + j, none⟩ = some (.int .i64 (S j)) := held (hc2 j hjm) hbj.out
            have j1 : (0 : Int) ≤ (j : Int) := by omega
            have j2 : (j : Int) < (m : Int) := by omega
            have hne : (R i == S j) = false := by simpa using HD.out i j hlt hjm
            clear hc2
            go_wp2_with fail
            go_quiet (fail)
            obtain ⟨wz, hwz⟩ : ∃ wz, wz = wr.drewN nq := ⟨_, rfl⟩
            have BZ : Hid (Below w.heap.size w wz) := by show Below _ _ _; rw [hwz]; exact below_then hbj.out (below_drewN _ _ _)
            rw [← hwz]
            clear hwz
            go_wp2_with fail
            go_roundw
            case rel => exact ⟨j + 1, by omega, by go_num, BZ.out⟩
            case measure => simp [intOf]; omega
          · obtain rfl : j = m := by omega
            go_wp2_with fail
            go_roundw
            case rel => exact ⟨i + 1, by omega, by go_num, hbj.out⟩
            case measure => simp [intOf]; omega
      · obtain ⟨i0, rfl⟩ : ∃ i0, i = i0 + 1 := ⟨i - 1, by omega⟩
        have c9 : wr.cell? ⟨g, off + i0, none⟩ = some (.int .i64 (R i0)) := held (hc i0 (by omega)) hbw.out
        have hle : ¬ R (i0 + 1) ≤ R i0 := by have := HR.out i0 hlt; omega
        have i3 : (0 : Int) ≤ (i0 : Int) := by omega
        have i4 : (i0 : Int) < (n : Int) := by omega
        have i5 : (0 : Int) < ((i0 + 1 : Nat) : Int) := by omega
        clear hc
        go_wp2_with fail
        go_quiet (fail)
        obtain ⟨wq, hwq⟩ : ∃ wq, wq = wr.drewN nq := ⟨_, rfl⟩
        have BQ : Hid (Below w.heap.size w wq) := by show Below _ _ _; rw [hwq]; exact below_then hbw.out (below_drewN _ _ _)
        rw [← hwq]
        clear hwq c0
        go_wp2_with fail
        go_loopw [6] (fun y wr => ∃ j : Nat, j ≤ m ∧ y = .int .i64 (j : Int) ∧ Hid (Below w.heap.size w wr)) (fun y _ => m - (intOf y).toNat)
        case atStart => exact ⟨0, Nat.zero_le _, rfl, BQ.out⟩
        case round =>
          obtain ⟨j, hj, rfl, hbj⟩ := hrel
          by_cases hjm : j < m
          · obtain ⟨g2, off2, rfl, hc2⟩ := HB.out (by omega)
            have c0 := HIN.out wr hbj.out
            have c1 : wr.cell? ⟨g2, off2 + j, none⟩ = some (.int .i64 (S j)) := held (hc2 j hjm) hbj.out
            have j1 : (0 : Int) ≤ (j : Int) := by omega
            have j2 : (j : Int) < (m : Int) := by omega
            have hne : (R (i0 + 1) == S j) = false := by simpa using HD.out (i0 + 1) j (by omega) hjm
            clear hc2
            go_wp2_with fail
            go_quiet (fail)
            obtain ⟨wz, hwz⟩ : ∃ wz, wz = wr.drewN nq := ⟨_, rfl⟩
            have BZ : Hid (Below w.heap.size w wz) := by show Below _ _ _; rw [hwz]; exact below_then hbj.out (below_drewN _ _ _)
            rw [← hwz]
            clear hwz
            go_wp2_with fail
            go_roundw
            case rel => exact ⟨j + 1, by omega, by go_num, BZ.out⟩
            case measure => simp [intOf]; omega
          · obtain rfl : j = m := by omega
            go_wp2_with fail
            go_roundw
            case rel => exact ⟨(i0 + 1) + 1, by omega, by go_num, hbj.out⟩
            case measure => simp [intOf]; omega
    · obtain rfl : i = n := by omega
      go_wp2_with fail
      go_ret
      exact ⟨rfl, hbw.out⟩
end Go.Proofs.Ytmlnbnbgkpbjeaa
