/- The greatest version of a vector; whether versions and vectors may be, by the program and by the document; whether two lists are the same. -/
import Derived.Test.YtfhefbbhlmdjkaaGreatVecA
namespace Go.Proofs.YtfhefbbhlmdjkaaGreat
open Go.RowKit

set_option maxHeartbeats 400000 in
theorem noVersion_any (v : Int) (w : World) : Calls Tryz.prog 61 #[.int .i64 v] w fun e w' => e = .returned (.bool (!verB v)) ∧ w' = w := by
  have HV : Hid (verB v = decide (1 ≤ v ∧ v ≤ 1073741824)) := rfl
  go_enter Tryz.func61, Tryz.ntmps61
  go_wp2
  all_goals (go_ret; refine ⟨ret_bool ?_, rfl⟩; rw [HV.out])
  · by_cases h : 1073741824 < v
    · rw [decide_eq_false (p := 1 ≤ v ∧ v ≤ 1073741824) (by omega), decide_eq_false (p := v < 1) (by omega), decide_eq_true h]; rfl
    · rw [decide_eq_true (p := 1 ≤ v ∧ v ≤ 1073741824) (by omega), decide_eq_false (p := v < 1) (by omega), decide_eq_false h]; rfl
  · rw [decide_eq_false (p := 1 ≤ v ∧ v ≤ 1073741824) (by omega)]; rfl
/-- A function value that marks the elements of a list as P does. -/
def RuleB (w : World) (fn : Nat) (cp : Array Value) (n : Nat) (R : Nat → Int) (P : Nat → Bool) : Prop :=
  ∀ i, i < n → Calls Tryz.prog fn (#[.int .i64 (R i)] ++ cp) w fun e w' => e = .returned (.bool (P i)) ∧ w' = w
set_option maxHeartbeats 1000000 in
set_option maxRecDepth 100000 in
theorem indexF_any (w : World) (ao : Option Addr) (n ca fn : Nat) (cp : Array Value) (R : Nat → Int) (P : Nat → Bool) (hn : n ≤ 1000) (hfn : ∀ xs w, (callFunc fn xs).run Tryz.prog w = .ok (.enter fn xs) w) (hr : RdI w ao n R) (hf : RuleB w fn cp n R P) :
    Calls Tryz.prog 86 #[.slice ao n ca, .func (.func fn) #[] cp] w fun e w' => ∃ x : Int, e = .returned (.int .i64 x) ∧ decide (0 ≤ x) = anyB n P ∧ w' = w := by
  have HR : Hid (RdI w ao n R) := hr
  have HF : Hid (RuleB w fn cp n R P) := hf
  clear hr hf
  by_cases hall : ∀ i, i < n → P i = false
  · have HB : Hid (anyB n P = false) := by show _ = _; unfold anyB; rw [decide_eq_true hall]; rfl
    have HA : Hid (∀ i, i < n → P i = false) := hall
    clear hall
    go_enter Tryz.func86, Tryz.ntmps86
    go_wp2
    go_loop [8] (fun x => ∃ i : Nat, i ≤ n ∧ x = .int .i64 i) (fun x => n - (intOf x).toNat)
    case atStart => exact ⟨0, Nat.zero_le _, rfl⟩
    case round =>
      obtain ⟨i, hi, rfl⟩ := hrel
      by_cases hlt : i < n
      · obtain ⟨b, off, rfl, hc⟩ := HR.out (by omega)
        have ck := hc i hlt
        have HC := HF.out i hlt
        rw [HA.out i hlt] at HC
        clear hc
        have i1 : (0 : Int) ≤ (i : Int) := by omega
        have i2 : (i : Int) < (n : Int) := by omega
        go_wp2_with fail
        refine HC.mono ?_
        rintro e w' ⟨rfl, rfl⟩
        go_wp2_with fail
        go_round
        case rel => exact ⟨i + 1, by omega, by go_num⟩
        case measure => simp [intOf]; omega
      · go_wp2
        go_ret
        exact ⟨_, rfl, by rw [HB.out]; rfl, rfl⟩
  · have HB : Hid (anyB n P = true) := by show _ = _; unfold anyB; rw [decide_eq_false hall]; rfl
    obtain ⟨q, hq, hne, heq⟩ := first_not hall
    have HE : Hid (∀ i, i < q → P i = false) := heq
    have HN : Hid (P q = true) := by show _ = _; cases h : P q; exact absurd h hne; rfl
    clear hall hne heq
    go_enter Tryz.func86, Tryz.ntmps86
    go_wp2
    go_loop [8] (fun x => ∃ i : Nat, i ≤ q ∧ x = .int .i64 i) (fun x => n - (intOf x).toNat)
    case atStart => exact ⟨0, Nat.zero_le _, rfl⟩
    case round =>
      obtain ⟨i, hi, rfl⟩ := hrel
      have hlt : i < n := by omega
      obtain ⟨b, off, rfl, hc⟩ := HR.out (by omega)
      have ck := hc i hlt
      have HC := HF.out i hlt
      clear hc
      have i1 : (0 : Int) ≤ (i : Int) := by omega
      have i2 : (i : Int) < (n : Int) := by omega
      by_cases hiq : i < q
      · rw [HE.out i hiq] at HC
        go_wp2_with fail
        refine HC.mono ?_
        rintro e w' ⟨rfl, rfl⟩
        go_wp2_with fail
        go_round
        case rel => exact ⟨i + 1, by omega, by go_num⟩
        case measure => simp [intOf]; omega
      · obtain rfl : i = q := by omega
        rw [HN.out] at HC
        go_wp2_with fail
        refine HC.mono ?_
        rintro e w' ⟨rfl, rfl⟩
        go_wp2_with fail
        go_ret
        exact ⟨_, rfl, by rw [HB.out]; simp, rfl⟩
set_option maxHeartbeats 1000000 in
theorem containsF_any (w : World) (ao : Option Addr) (n ca fn : Nat) (cp : Array Value) (R : Nat → Int) (P : Nat → Bool) (hn : n ≤ 1000) (hfn : ∀ xs w, (callFunc fn xs).run Tryz.prog w = .ok (.enter fn xs) w) (hr : RdI w ao n R) (hf : RuleB w fn cp n R P) :
    Calls Tryz.prog 59 #[.slice ao n ca, .func (.func fn) #[] cp] w fun e w' => e = .returned (.bool (anyB n P)) ∧ w' = w := by
  have HX := indexF_any w ao n ca fn cp R P hn hfn hr hf
  clear hr hf hfn
  go_enter Tryz.func59, Tryz.ntmps59
  go_wp2_with (go_at_call 86; refine HX.mono ?_; rintro e w' ⟨x, rfl, hx, rfl⟩)
  go_ret
  exact ⟨by rw [← hx]; rfl, rfl⟩
theorem any_noVersion {N n : Nat} {R : Nat → Int} (h : n = N) : anyB n (fun i => !verB (R i)) = !vok N n R := by
  unfold anyB vok
  congr 1
  apply decide_eq_decide.2
  constructor
  · intro k
    refine ⟨h, fun i hi => ?_⟩
    have := k i hi
    have h2 : verB (R i) = true := by simpa using this
    exact of_decide_eq_true h2
  · rintro ⟨_, k⟩ i hi
    show (!verB (R i)) = false
    rw [show verB (R i) = true from decide_eq_true (k i hi)]; rfl
theorem Par.few {k r c q : Int} {N W : Nat} {e : Int} (h : Par k r c q N W e) : N ≤ 16 := by
  rcases h with ⟨h, _, h0, _⟩ | ⟨_, _, h0, _⟩
  · obtain ⟨h1, h2, h3, h4, h5, h6, h7, h8, h9⟩ := may_true h
    omega
  · omega
theorem Par.some {k r c q : Int} {N W : Nat} {e : Int} (h : Par k r c q N W e) (he : e = 0) : 1 ≤ N := by
  rcases h with ⟨h, _, h0, _⟩ | ⟨_, _, h0, h1⟩
  · obtain ⟨h1, h2, h3, h4, h5, h6, h7, h8, h9⟩ := may_true h
    omega
  · omega
set_option maxHeartbeats 1000000 in
set_option maxRecDepth 100000 in
theorem VCheck_any {k r c q : Int} {N W : Nat} {x : Int} (h : Par k r c q N W x) (w : World) (ao : Option Addr) (n ca : Nat) (R : Nat → Int) (hv : Vec w ao n ca R) :
    Calls Tryz.prog 58 #[.agg #[.int .i64 k, .int .i64 r, .int .i64 c, .int .i64 q], .slice ao n ca] w fun e w' => e = .returned (.int .i64 (erV x N n R)) ∧ Below w.heap.size w w' := by
  have HD := fun w => Drives_any h w
  have hx : x = 0 ∨ x = 2 := by rcases h with ⟨_, _, _, h⟩ | ⟨_, _, _, h⟩; exact .inl h; exact .inr h
  have HV : Hid (RdI w ao n R) := hv.rd
  have hN : N ≤ 16 := h.few
  clear h hv
  obtain ⟨w0, hw0⟩ : ∃ w0, w0 = w.alloc (.cells #[.int .i64 k, .int .i64 r, .int .i64 c, .int .i64 q] 23) := ⟨_, rfl⟩
  have b0 : Below w.heap.size w w0 := by rw [hw0]; exact below_alloc _ _
  rcases hx with rfl | rfl
  · by_cases hnN : n = N
    · have HE : Hid (erV 0 N n R = if vok N n R = true then 0 else 70) := by show _ = _; unfold erV; rw [if_pos rfl]
      have HO := any_noVersion (R := R) hnN
      have HC := fun w (hr : RdI w ao n R) => containsF_any w ao n ca 61 #[] R (fun i => !verB (R i)) (by omega) (fun _ _ => rfl) hr (fun i _ => noVersion_any (R i) w)
      rw [HO] at HC
      clear HO
      subst hnN
      cases hok : vok n n R
      all_goals (
        rw [hok] at HC HE
        clear hok
        go_enter Tryz.func58, Tryz.ntmps58
        go_wp2_with fail
        rw [← hw0]
        refine (HD _).mono ?_
        rintro e wa ⟨rfl, ha⟩
        have hb := below_then b0 ha
        have HR := HV.out.below hb
        clear hw0
        go_wp2_with fail
        refine (HC _ HR).mono ?_
        rintro e wb ⟨rfl, rfl⟩
        go_wp2_with fail
        go_ret
        exact ⟨ret_int (by rw [HE.out]; rfl), hb⟩)
    · have HE : Hid (erV 0 N n R = 70) := erV_70 fun h => hnN h.1
      go_enter Tryz.func58, Tryz.ntmps58
      go_wp2_with fail
      rw [← hw0]
      refine (HD _).mono ?_
      rintro e wa ⟨rfl, ha⟩
      have hb := below_then b0 ha
      clear hw0
      go_wp2_with fail
      go_ret
      exact ⟨ret_int (by rw [HE.out]), hb⟩
  · have HE : Hid (erV 2 N n R = 2) := erV_x (by decide)
    go_enter Tryz.func58, Tryz.ntmps58
    go_wp2_with fail
    rw [← hw0]
    refine (HD _).mono ?_
    rintro e wa ⟨rfl, ha⟩
    have hb := below_then b0 ha
    clear hw0
    go_wp2_with fail
    go_ret
    exact ⟨ret_int (by rw [HE.out]), hb⟩
/-- A number and an error. -/
def TellI (w : World) (E : Int) (v : Int) (e : Ending) (w' : World) : Prop := e = .returned (.tuple #[.int .i64 (if E = 0 then v else 0), .int .i64 E]) ∧ Below w.heap.size w w'
set_option maxHeartbeats 1000000 in
set_option maxRecDepth 100000 in
theorem Last_any {k r c q : Int} {N W : Nat} {x : Int} (h : Par k r c q N W x) (w : World) (ao : Option Addr) (n ca : Nat) (R : Nat → Int) (hv : Vec w ao n ca R) (E : Int) (hE : erV x N n R = E) :
    Calls Tryz.prog 77 #[.agg #[.int .i64 k, .int .i64 r, .int .i64 c, .int .i64 q], .slice ao n ca] w (TellI w E (mx R n)) := by
  have HC := fun w (hv : Vec w ao n ca R) => VCheck_any h w ao n ca R hv
  rw [hE] at HC
  have hs := h.some
  have HV : Hid (Vec w ao n ca R) := hv
  have hN : N ≤ 16 := h.few
  clear hv h
  obtain ⟨w0, hw0⟩ : ∃ w0, w0 = w.alloc (.cells #[.int .i64 k, .int .i64 r, .int .i64 c, .int .i64 q] 23) := ⟨_, rfl⟩
  have b0 : Below w.heap.size w w0 := by rw [hw0]; exact below_alloc _ _
  unfold TellI
  by_cases h1 : E = 0
  · subst h1
    obtain ⟨rfl, rfl, h4⟩ := erV_of hE
    rw [if_pos rfl]
    obtain ⟨l, rfl⟩ : ∃ l, n = l + 1 := ⟨n - 1, by have := hs rfl; omega⟩
    have HM : Hid (∀ i, i ≤ l → mx R (i + 1) = gr (mx R i) (R i)) := fun _ _ => rfl
    have HM1 : Hid (mx R 1 = R 0) := mx_one (h4 0 (by omega)).1
    clear hE hs h4
    have hroom := HV.out.room
    by_cases hcap : ca = 1
    · obtain rfl : l = 0 := by omega
      subst hcap
      go_enter Tryz.func77, Tryz.ntmps77
      go_wp2_with fail
      rw [← hw0]
      refine (HC _ (HV.out.below b0)).mono ?_
      rintro e wa ⟨rfl, ha⟩
      have hb := below_then b0 ha
      obtain ⟨b, off, rfl, hc⟩ := (HV.out.below hb).rd (by omega)
      have c0 := hc 0 (by omega)
      rw [Nat.add_zero] at c0
      clear hw0 hc
      go_wp2_with fail
      go_loop [7, 22] (fun v x => v = .int .i64 (R 0) ∧ x = .int .i64 0) (fun _ _ => 0)
      case atStart => exact ⟨rfl, rfl⟩
      case round =>
        obtain ⟨rfl, rfl⟩ := hrel
        go_wp2
        go_ret2
        exact ⟨by rw [HM1.out]; rfl, hb⟩
    · go_enter Tryz.func77, Tryz.ntmps77
      go_wp2_with fail
      rw [← hw0]
      refine (HC _ (HV.out.below b0)).mono ?_
      rintro e wa ⟨rfl, ha⟩
      have hb := below_then b0 ha
      obtain ⟨b, off, rfl, hc⟩ := (HV.out.below hb).rd (by omega)
      have c0 := hc 0 (by omega)
      rw [Nat.add_zero] at c0
      have HCC : Hid (∀ i, i < l + 1 → wa.cell? ⟨b, off + i, none⟩ = some (.int .i64 (R i))) := hc
      have h1c : (1 : Int) ≤ ((l + 1 : Nat) : Int) := by omega
      have h2c : (1 : Int) ≤ (ca : Int) := by omega
      have HBB : Hid (Below w.heap.size w wa) := hb
      clear hw0 hc hb ha b0 HC
      go_wp2_with fail
      go_loop [7, 22] (fun v x => ∃ i : Nat, i ≤ l ∧ x = .int .i64 (i : Int) ∧ ∃ y, v = .int .i64 y ∧ Hid (y = mx R (i + 1))) (fun _ x => l - (intOf x).toNat)
      case atStart => exact ⟨0, Nat.zero_le _, rfl, _, rfl, HM1.out.symm⟩
      case round =>
        obtain ⟨i, hi, rfl, y, rfl, hy⟩ := hrel
        by_cases hlt : i < l
        · have ck := HCC.out (i + 1) (by omega)
          rw [show off + (i + 1) = off + 1 + i by omega] at ck
          have i1 : (0 : Int) ≤ (i : Int) := by omega
          have i2 : (i : Int) < (l : Int) := by omega
          have HY : Hid (mx R (i + 1 + 1) = gr y (R (i + 1))) := by show _ = _; rw [HM.out (i + 1) (by omega), ← hy.out]
          by_cases hg : y < R (i + 1)
          · have HY2 : Hid (R (i + 1) = mx R (i + 1 + 1)) := by show _ = _; rw [HY.out]; unfold gr; rw [if_pos hg]
            go_wp2
            go_round
            case rel => exact ⟨i + 1, by omega, by go_num, _, rfl, HY2.out⟩
            case measure => simp [intOf]; omega
          · have HY2 : Hid (y = mx R (i + 1 + 1)) := by show _ = _; rw [HY.out]; unfold gr; rw [if_neg hg]
            go_wp2
            go_round
            case rel => exact ⟨i + 1, by omega, by go_num, _, rfl, HY2.out⟩
            case measure => simp [intOf]; omega
        · obtain rfl : i = l := by omega
          go_wp2
          go_ret2
          exact ⟨by rw [hy.out]; rfl, HBB.out⟩
  · have hne : (E != 0) = true := by simpa using h1
    rw [if_neg h1]
    clear hE h1 hs
    go_enter Tryz.func77, Tryz.ntmps77
    go_wp2_with fail
    rw [← hw0]
    refine (HC _ (HV.out.below b0)).mono ?_
    rintro e wa ⟨rfl, ha⟩
    have hb := below_then b0 ha
    clear hw0
    go_wp2_with fail
    go_ret2
    exact ⟨rfl, hb⟩
end Go.Proofs.YtfhefbbhlmdjkaaGreat
