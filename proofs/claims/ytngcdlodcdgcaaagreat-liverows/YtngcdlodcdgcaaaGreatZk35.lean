import Derived.Test.YtngcdlodcdgcaaaGreatZk29
import Derived.Test.YtngcdlodcdgcaaaGreatZk34
namespace Go.Proofs.YtngcdlodcdgcaaaGreat
def tB (y : Sl) (kd : UInt8) (v : Int) : Bool := decide (y.kd = kd /\ y.st = v)
def tS (Y : Nat -> Sl) (kd : UInt8) (v : Int) : Nat -> Sl
  | 0 => zSl
  | m + 1 => if (tS Y kd v m).ce = 0 then (if tB (Y m) kd v = true then Y m else zSl) else tS Y kd v m
def zz (Y : Nat -> Sl) (kd : UInt8) (t : Sl) (i : Nat) : Sl := if t.ce = 0 then zSl else fZ (Y (2 * i)) (Y (2 * i + 1)) kd (t.V i)
def yy (N : Nat) (c : Int) (L : Nat -> Nat) (F : Nat -> Nat -> UInt8) (j : Nat) : Sl := he 0 N c ((j / 2 : Nat) : Int) (L j) (F j)
def Is (N : Nat) (c : Int) (y : Sl) (i : Nat) : Prop := okS N c y = true /\ y.ix = (i : Int)
def OkY (N : Nat) (c : Int) (Y : Nat -> Sl) : Prop := ∀ j, j < 2 * N -> Y j = zSl \/ Is N c (Y j) (j / 2)
theorem he_is (N : Nat) (c ix : Int) (n : Nat) (F : Nat -> UInt8) : he 0 N c ix n F = zSl \/ (okS N c (he 0 N c ix n F) = true /\ (he 0 N c ix n F).ix = ix /\ isS N c n F = true /\ he 0 N c ix n F = dec N c F) := by
  unfold he ofI slQ
  rw [if_pos rfl]
  cases e : isS N c n F
  · rw [if_neg Bool.false_ne_true]
    by_cases h : zSl.ix = ix
    · rw [if_pos h]; exact .inl rfl
    · rw [if_neg h]; exact .inl rfl
  · rw [if_pos rfl]
    by_cases h : (dec N c F).ix = ix
    · rw [if_pos h]; exact .inr ⟨(is_true e).2.2.2, h, rfl, rfl⟩
    · rw [if_neg h]; exact .inl rfl
theorem yy_ok (N : Nat) (c : Int) (L : Nat -> Nat) (F : Nat -> Nat -> UInt8) : OkY N c (yy N c L F) := fun j _ => by
  rcases he_is N c ((j / 2 : Nat) : Int) (L j) (F j) with h | ⟨h1, h2, _⟩
  · exact .inl h
  · exact .inr ⟨h1, h2⟩
structure Ok (N : Nat) (c : Int) (s : Sl) : Prop where
  vn : s.vn = N
  V : ∀ i, i < N -> 1 <= s.V i /\ s.V i <= 1073741824
  kd : s.kd = 1 \/ s.kd = 2
  ix : 0 <= s.ix /\ s.ix < (N : Int)
  dn : (s.dn : Int) = c
  st : s.st = mx s.V N
  ce : s.ce = s.V s.ix.toNat
theorem ok_of {N : Nat} {c : Int} {s : Sl} (h : okS N c s = true) : Ok N c s := by
  obtain ⟨⟨k1, k2⟩, k3, k4, k5, k6, k7, k8⟩ := okS_true h
  subst k1
  exact ⟨rfl, k2, k3, ⟨k4, k5⟩, k6, k7, k8⟩
theorem Ok.ne {N : Nat} {c : Int} {s : Sl} (h : Ok N c s) : s.ce ≠ 0 := by
  have := h.V s.ix.toNat (by have := h.ix; omega)
  have := h.ce
  omega
theorem tB_ne {N : Nat} {c : Int} {y : Sl} {i : Nat} {kd : UInt8} {v : Int} (hk : kd = 1 \/ kd = 2) (h : y = zSl \/ Is N c y i) (ht : tB y kd v = true) : Is N c y i := by
  rcases h with rfl | h
  · have := (of_decide_eq_true ht).1
    rcases hk with rfl | rfl <;> exact absurd this (by decide)
  · exact h
theorem tS_stay {Y : Nat -> Sl} {kd : UInt8} {v : Int} {m n : Nat} (h : (tS Y kd v m).ce ≠ 0) (hm : m <= n) : tS Y kd v n = tS Y kd v m := by
  induction n with
  | zero => rw [show m = 0 by omega]
  | succ n ih =>
    by_cases e : m = n + 1
    · rw [e]
    · have := ih (by omega)
      rw [tS, this, if_neg h]
theorem tS_is {N : Nat} {c : Int} {Y : Nat -> Sl} {kd : UInt8} {v : Int} (hk : kd = 1 \/ kd = 2) (hY : OkY N c Y) : ∀ m, m <= 2 * N -> (tS Y kd v m = zSl /\ ∀ j, j < m -> tB (Y j) kd v = false) \/ ∃ j, j < m /\ tS Y kd v m = Y j /\ tB (Y j) kd v = true /\ Is N c (Y j) (j / 2) /\ ∀ j', j' < j -> tB (Y j') kd v = false
  | 0, _ => .inl ⟨rfl, fun j h => absurd h (Nat.not_lt_zero j)⟩
  | m + 1, hm => by
    rcases tS_is hk hY m (by omega) with ⟨h1, h2⟩ | ⟨j, h1, h2, h3, h4, h5⟩
    · rw [tS, h1, if_pos (show zSl.ce = 0 from rfl)]
      cases e : tB (Y m) kd v
      · rw [if_neg Bool.false_ne_true]
        refine .inl ⟨rfl, fun j hj => ?_⟩
        by_cases g : j = m
        · rw [g]; exact e
        · exact h2 j (by omega)
      · rw [if_pos rfl]
        exact .inr ⟨m, by omega, rfl, e, tB_ne hk (hY m (by omega)) e, h2⟩
    · rw [tS, h2, if_neg (ok_of h4.1).ne]
      exact .inr ⟨j, by omega, rfl, h3, h4, h5⟩
theorem hB_true {y : Sl} {kd : UInt8} {v : Int} (h : hB y kd v = true) : v ≠ 0 /\ y.kd = kd /\ y.ce = v := of_decide_eq_true h
theorem fZ_is {N : Nat} {c : Int} {y0 y1 : Sl} {i : Nat} {kd : UInt8} {v : Int} (h0 : y0 = zSl \/ Is N c y0 i) (h1 : y1 = zSl \/ Is N c y1 i) : (fZ y0 y1 kd v = zSl /\ hB y0 kd v = false /\ hB y1 kd v = false) \/ (Is N c (fZ y0 y1 kd v) i /\ (fZ y0 y1 kd v).kd = kd /\ (fZ y0 y1 kd v).ce = v /\ v ≠ 0) := by
  unfold fZ
  cases e0 : hB y0 kd v
  · rw [if_neg Bool.false_ne_true]
    cases e1 : hB y1 kd v
    · rw [if_neg Bool.false_ne_true]; exact .inl ⟨rfl, rfl, rfl⟩
    · rw [if_pos rfl]
      obtain ⟨a, b, d⟩ := hB_true e1
      refine .inr ⟨?_, b, d, a⟩
      rcases h1 with rfl | h
      · exact absurd d.symm a
      · exact h
  · rw [if_pos rfl]
    obtain ⟨a, b, d⟩ := hB_true e0
    refine .inr ⟨?_, b, d, a⟩
    rcases h0 with rfl | h
    · exact absurd d.symm a
    · exact h
theorem pair_of {N : Nat} {c : Int} {Y : Nat -> Sl} (hY : OkY N c Y) {i : Nat} (hi : i < N) : (Y (2 * i) = zSl \/ Is N c (Y (2 * i)) i) /\ (Y (2 * i + 1) = zSl \/ Is N c (Y (2 * i + 1)) i) := by
  have h0 := hY (2 * i) (by omega)
  have h1 := hY (2 * i + 1) (by omega)
  rw [show 2 * i / 2 = i by omega] at h0
  rw [show (2 * i + 1) / 2 = i by omega] at h1
  exact ⟨h0, h1⟩
theorem zz_is {N : Nat} {c : Int} {Y : Nat -> Sl} {kd : UInt8} (hY : OkY N c Y) (t : Sl) {i : Nat} (hi : i < N) : zz Y kd t i = zSl \/ (Is N c (zz Y kd t i) i /\ (zz Y kd t i).kd = kd /\ (zz Y kd t i).ce = t.V i /\ t.ce ≠ 0) := by
  unfold zz
  by_cases e : t.ce = 0
  · rw [if_pos e]; exact .inl rfl
  · rw [if_neg e]
    obtain ⟨h0, h1⟩ := pair_of hY hi
    rcases fZ_is (kd := kd) (v := t.V i) h0 h1 with ⟨h, _⟩ | ⟨h, g, f, _⟩
    · exact .inl h
    · exact .inr ⟨h, g, f, e⟩
end Go.Proofs.YtngcdlodcdgcaaaGreat
namespace Go.Proofs.YtngcdlodcdgcaaaGreat
open Go.RowKit
structure Rw (w : World) (ro : Option Addr) (rn : Nat) (A : Nat -> Option Addr) (L C : Nat -> Nat) (F : Nat -> Nat -> UInt8) : Prop where
  at_ : 0 < rn -> ∃ b off, ro = some ⟨b, off, none⟩ /\ ∀ i, i < rn -> w.cell? ⟨b, off + i * 2, none⟩ = some (.slice (A (2 * i)) (L (2 * i)) (C (2 * i))) /\ w.cell? ⟨b, off + i * 2 + 1, none⟩ = some (.slice (A (2 * i + 1)) (L (2 * i + 1)) (C (2 * i + 1)))
  bec : ∀ j, j < 2 * rn -> Bec w (A j) (L j) (C j) (F j)
theorem Rw.below {w w' : World} {ro : Option Addr} {rn : Nat} {A : Nat -> Option Addr} {L C : Nat -> Nat} {F : Nat -> Nat -> UInt8} (h : Rw w ro rn A L C F) (hb : Below w.heap.size w w') : Rw w' ro rn A L C F := by
  refine ⟨fun hp => ?_, fun j hj => (h.bec j hj).below hb⟩
  obtain ⟨b, off, rfl, hc⟩ := h.at_ hp
  exact ⟨b, off, rfl, fun i hi => ⟨held (hc i hi).1 hb, held (hc i hi).2 hb⟩⟩
set_option maxHeartbeats 400000 in
theorem within2_any (n a b : Int) (w : World) :
    Calls Tryz.prog 130 #[.int .i64 n, .int .i64 a, .int .i64 b] w fun e w' => e = .returned (.bool (decide (a <= n /\ n <= b))) /\ w' = w := by
  rw [Bool.decide_and]
  go_enter Tryz.func130, Tryz.ntmps130
  go_wp2
  · go_ret
    exact ⟨ret_bool (by rw [decide_eq_true (show a <= n by omega)]; rfl), rfl⟩
  · go_ret
    exact ⟨ret_bool (by rw [decide_eq_false (show ¬ a <= n by omega)]; rfl), rfl⟩
def RuleC (w : World) (fn : Nat) (cp : Array Value) (n : Nat) (A : Nat -> Option Addr) (L C : Nat -> Nat) (P : Nat -> Bool) : Prop :=
  ∀ i, i < n -> Calls Tryz.prog fn (#[.slice (A i) (L i) (C i)] ++ cp) w fun e w' => e = .returned (.bool (P i)) /\ w' = w
def RdC (w : World) (ao : Option Addr) (n : Nat) (A : Nat -> Option Addr) (L C : Nat -> Nat) : Prop := 0 < n -> ∃ b off, ao = some ⟨b, off, none⟩ /\ ∀ i, i < n -> w.cell? ⟨b, off + i, none⟩ = some (.slice (A i) (L i) (C i))
set_option maxHeartbeats 1000000 in
set_option maxRecDepth 100000 in
theorem indexC_any (w : World) (ao : Option Addr) (n ca fn : Nat) (cp : Array Value) (A : Nat -> Option Addr) (L C : Nat -> Nat) (P : Nat -> Bool) (hn : n <= 1000) (hfn : ∀ xs w, (callFunc fn xs).run Tryz.prog w = .ok (.enter fn xs) w) (hr : RdC w ao n A L C) (hf : RuleC w fn cp n A L C P) :
    Calls Tryz.prog 156 #[.slice ao n ca, .func (.func fn) #[] cp] w fun e w' => ∃ x : Int, e = .returned (.int .i64 x) /\ decide (0 <= x) = anyB n P /\ w' = w := by
  have HR : Hid (RdC w ao n A L C) := hr
  have HF : Hid (RuleC w fn cp n A L C P) := hf
  clear hr hf
  by_cases hall : ∀ i, i < n -> P i = false
  · have HB : Hid (anyB n P = false) := by show _ = _; unfold anyB; rw [decide_eq_true hall]; rfl
    have HA : Hid (∀ i, i < n -> P i = false) := hall
    clear hall
    go_enter Tryz.func156, Tryz.ntmps156
    go_wp2
    go_loop [8] (fun x => ∃ i : Nat, i <= n /\ x = .int .i64 i) (fun x => n - (intOf x).toNat)
    case atStart => exact ⟨0, Nat.zero_le _, rfl⟩
    case round =>
      obtain ⟨i, hi, rfl⟩ := hrel
      by_cases hlt : i < n
      · obtain ⟨b, off, rfl, hc⟩ := HR.out (by omega)
        have ck := hc i hlt
        have HC := HF.out i hlt
        rw [HA.out i hlt] at HC
        clear hc
        have i1 : (0 : Int) <= (i : Int) := by omega
        have i2 : (i : Int) < (n : Int) := by omega
        go_wp2_with fail
        refine HC.mono ?_
        rintro e w' ⟨rfl, rfl⟩
        go_wp2_with fail
        go_round
        case rel => exact ⟨i + 1, by omega, by go_num⟩
        case measure => simp [intOf]; omega
      · go_wp2
        go_ret
        exact ⟨_, rfl, by rw [HB.out]; rfl, rfl⟩
  · have HB : Hid (anyB n P = true) := by show _ = _; unfold anyB; rw [decide_eq_false hall]; rfl
    obtain ⟨q, hq, hne, heq⟩ := first_not hall
    have HE : Hid (∀ i, i < q -> P i = false) := heq
    have HN : Hid (P q = true) := by show _ = _; cases h : P q; exact absurd h hne; rfl
    clear hall hne heq
    go_enter Tryz.func156, Tryz.ntmps156
    go_wp2
    go_loop [8] (fun x => ∃ i : Nat, i <= q /\ x = .int .i64 i) (fun x => n - (intOf x).toNat)
    case atStart => exact ⟨0, Nat.zero_le _, rfl⟩
    case round =>
      obtain ⟨i, hi, rfl⟩ := hrel
      have hlt : i < n := by omega
      obtain ⟨b, off, rfl, hc⟩ := HR.out (by omega)
      have ck := hc i hlt
      have HC := HF.out i hlt
      clear hc
      have i1 : (0 : Int) <= (i : Int) := by omega
      have i2 : (i : Int) < (n : Int) := by omega
      by_cases hiq : i < q
      · rw [HE.out i hiq] at HC
        go_wp2_with fail
        refine HC.mono ?_
        rintro e w' ⟨rfl, rfl⟩
        go_wp2_with fail
        go_round
        case rel => exact ⟨i + 1, by omega, by go_num⟩
        case measure => simp [intOf]; omega
      · obtain rfl : i = q := by omega
        rw [HN.out] at HC
        go_wp2_with fail
        refine HC.mono ?_
        rintro e w' ⟨rfl, rfl⟩
        go_wp2_with fail
        go_ret
        exact ⟨_, rfl, by rw [HB.out]; simp, rfl⟩
set_option maxHeartbeats 1000000 in
theorem containsC_any (w : World) (ao : Option Addr) (n ca fn : Nat) (cp : Array Value) (A : Nat -> Option Addr) (L C : Nat -> Nat) (P : Nat -> Bool) (hn : n <= 1000) (hfn : ∀ xs w, (callFunc fn xs).run Tryz.prog w = .ok (.enter fn xs) w) (hr : RdC w ao n A L C) (hf : RuleC w fn cp n A L C P) :
    Calls Tryz.prog 142 #[.slice ao n ca, .func (.func fn) #[] cp] w fun e w' => e = .returned (.bool (anyB n P)) /\ w' = w := by
  have HX := indexC_any w ao n ca fn cp A L C P hn hfn hr hf
  clear hr hf hfn
  go_enter Tryz.func142, Tryz.ntmps142
  go_wp2_with (go_at_call 156; refine HX.mono ?_; rintro e w' ⟨x, rfl, hx, rfl⟩)
  go_ret
  exact ⟨by rw [<- hx]; rfl, rfl⟩
def badL (z l : Nat) : Bool := decide (l ≠ 0 /\ l ≠ z)
set_option maxHeartbeats 1000000 in
theorem bad_any (w : World) (a : Option Addr) (l cp g z : Nat) (hg : w.cell? ⟨g, 0, none⟩ = some (.int .i64 (z : Int))) :
    Calls Tryz.prog 143 #[.slice a l cp, .pointer (some ⟨g, 0, none⟩)] w fun e w' => e = .returned (.bool (badL z l)) /\ w' = w := by
  have HV : Hid (badL z l = decide (l ≠ 0 /\ l ≠ z)) := rfl
  by_cases h0 : l = 0
  · have h1 : ((l : Int) != 0) = false := by simp [h0]
    go_enter Tryz.func143, Tryz.ntmps143
    go_wp2
    go_ret
    refine ⟨ret_bool ?_, rfl⟩
    rw [HV.out, decide_eq_false (by omega)]
  · have h1 : ((l : Int) != 0) = true := by simp [h0]
    have h2 : ((l : Int) != (z : Int)) = decide (l ≠ z) := by
      by_cases e : l = z
      · subst e; simp
      · rw [decide_eq_true e]; simp; omega
    go_enter Tryz.func143, Tryz.ntmps143
    go_wp2
    go_ret
    refine ⟨ret_bool ?_, rfl⟩
    rw [HV.out]
    first | (by_cases e : l = z; subst e; simp; simp [h0, e]; done) | simp [h0]
end Go.Proofs.YtngcdlodcdgcaaaGreat
namespace Go.Proofs.YtngcdlodcdgcaaaGreat
open Go.RowKit
def erR (x : Int) (N : Nat) (c : Int) (rn : Nat) (L : Nat -> Nat) : Int := if x = 0 then (if rn = N /\ ∀ j, j < 2 * rn -> L j = 0 \/ L j = sz N c then 0 else 120) else x
theorem Par.le {k r c q : Int} {N W : Nat} {e : Int} (h : Par k r c q N W e) : N <= 16 := by
  rcases h with ⟨h, _, h0, _⟩ | ⟨_, _, h0, _⟩
  · obtain ⟨h1, h2, h3, h4, h5, h6, h7, h8, h9⟩ := may_true h; omega
  · omega
set_option maxHeartbeats 2000000 in
set_option maxRecDepth 100000 in
theorem checkRow_any {k r c q : Int} {N W : Nat} {x : Int} (h : Par k r c q N W x) (w : World) (ro : Option Addr) (rn rc : Nat) (A : Nat -> Option Addr) (L C : Nat -> Nat) (F : Nat -> Nat -> UInt8) (hr : Rw w ro rn A L C F) (E : Int) (hE : erR x N c rn L = E) :
    Calls Tryz.prog 129 #[.agg #[.int .i64 k, .int .i64 r, .int .i64 c, .int .i64 q], .slice ro rn rc] w fun e w' => e = .returned (.int .i64 E) /\ Below w.heap.size w w' := by
  have HD := fun w => Drives_any h w
  have HZ := fun w => Size_any h w
  have hle := h.le
  obtain ⟨w0, hw0⟩ : ∃ w0, w0 = w.alloc (.cells #[.int .i64 k, .int .i64 r, .int .i64 c, .int .i64 q] 23) := ⟨_, rfl⟩
  have b0 : Below w.heap.size w w0 := by rw [hw0]; exact below_alloc _ _
  by_cases hx : x = 0
  · subst hx
    have e0 : szE 0 N c = sz N c := if_pos rfl
    rw [e0] at HZ
    unfold erR at hE
    rw [if_pos rfl] at hE
    clear h e0
    by_cases hn : rn = N
    · subst hn
      have hnn : ((rn : Int) != (rn : Int)) = false := by simp
      obtain ⟨z, hz⟩ : ∃ z, z = sz rn c := ⟨_, rfl⟩
      rw [<- hz] at hE HZ
      clear hz
      have HE : Hid ((∀ j, j < 2 * rn -> L j = 0 \/ L j = z) /\ E = 0 \/ ¬ (∀ j, j < 2 * rn -> L j = 0 \/ L j = z) /\ E = 120) := by
        by_cases g : ∀ j, j < 2 * rn -> L j = 0 \/ L j = z
        · rw [if_pos ⟨rfl, g⟩] at hE; exact .inl ⟨g, hE.symm⟩
        · rw [if_neg fun a => g a.2] at hE; exact .inr ⟨g, hE.symm⟩
      have HR : Hid (Rw w ro rn A L C F) := hr
      clear hE hr
      go_enter Tryz.func129, Tryz.ntmps129
      go_wp2_with fail
      rw [<- hw0]
      refine (HD _).mono ?_
      rintro e wa ⟨rfl, ha⟩
      obtain ⟨s0, s1, s2, s3⟩ := par_held hw0 ha
      go_wp2_with fail
      refine (HZ _).mono ?_
      rintro e wb ⟨rfl, hb⟩
      obtain ⟨wc, hwc⟩ : ∃ wc, wc = wb.alloc (.cells #[.int .i64 (z : Int)] 3) := ⟨_, rfl⟩
      have HC : Hid (Below w.heap.size w wc) := by show Below _ _ _; rw [hwc]; exact below_then (below_then (below_then b0 ha) hb) (below_alloc _ _)
      have HG : Hid (∀ v, Below wc.heap.size wc v -> v.cell? ⟨wb.heap.size, 0, none⟩ = some (.int .i64 (z : Int))) := fun v hv => blk_held hwc hv 0 rfl
      clear s0 s1 s2 s3 hw0 b0 ha hb
      go_wp2_with fail
      rw [<- hwc]
      clear hwc
      go_loopw [30] (fun y wr => ∃ i : Nat, i <= rn /\ y = .int .i64 (i : Int) /\ Hid (Below wc.heap.size wc wr) /\ Hid (∀ j, j < 2 * i -> L j = 0 \/ L j = z)) (fun y _ => rn - (intOf y).toNat)
      case atStart => exact ⟨0, Nat.zero_le _, rfl, Below.refl _ _, fun j hj => absurd hj (by omega)⟩
      case round =>
        obtain ⟨i, hi, rfl, hbw, hall⟩ := hrel
        by_cases hlt : i < rn
        · obtain ⟨b, off, rfl, hcc⟩ := HR.out.at_ (by omega)
          have c0 : wr.cell? ⟨b, off + i * 2, none⟩ = some (.slice (A (2 * i)) (L (2 * i)) (C (2 * i))) := held (hcc i hlt).1 (below_then HC.out hbw.out)
          have c1 : wr.cell? ⟨b, off + i * 2 + 1, none⟩ = some (.slice (A (2 * i + 1)) (L (2 * i + 1)) (C (2 * i + 1))) := held (hcc i hlt).2 (below_then HC.out hbw.out)
          clear hcc
          have i1 : (0 : Int) <= (i : Int) := by omega
          have i2 : (i : Int) < (rn : Int) := by omega
          obtain ⟨wd, hwd⟩ : ∃ wd, wd = wr.alloc (.cells #[.slice (A (2 * i)) (L (2 * i)) (C (2 * i)), .slice (A (2 * i + 1)) (L (2 * i + 1)) (C (2 * i + 1))] 127) := ⟨_, rfl⟩
          have bd : Below wr.heap.size wr wd := by rw [hwd]; exact below_alloc _ _
          have hrule : RuleC wd 143 #[.pointer (some ⟨wb.heap.size, 0, none⟩)] 2 (fun t => A (2 * i + t)) (fun t => L (2 * i + t)) (fun t => C (2 * i + t)) (fun t => badL z (L (2 * i + t))) := fun t _ => bad_any wd _ _ _ _ z (HG.out _ (below_then hbw.out bd))
          have hread : RdC wd (some ⟨wr.heap.size, 0, none⟩) 2 (fun t => A (2 * i + t)) (fun t => L (2 * i + t)) (fun t => C (2 * i + t)) := fun _ => ⟨_, 0, rfl, fun t ht => by
            rcases (show t = 0 \/ t = 1 by omega) with rfl | rfl
            · exact blk_held hwd (Below.refl _ _) 0 rfl
            · exact blk_held hwd (Below.refl _ _) 1 rfl⟩
          have HX := containsC_any wd _ 2 2 143 _ _ _ _ _ (by omega) (fun _ _ => rfl) hread hrule
          obtain ⟨y, hy⟩ : ∃ y, y = anyB 2 (fun t => badL z (L (2 * i + t))) := ⟨_, rfl⟩
          rw [<- hy] at HX
          have HD2 : Hid (Below wc.heap.size wc wd) := below_then hbw.out bd
          have HY : Hid ((y = false /\ (L (2 * i) = 0 \/ L (2 * i) = z) /\ (L (2 * i + 1) = 0 \/ L (2 * i + 1) = z)) \/ (y = true /\ ¬ ((L (2 * i) = 0 \/ L (2 * i) = z) /\ (L (2 * i + 1) = 0 \/ L (2 * i + 1) = z)))) := by
            have hyy := hy
            unfold anyB at hyy
            by_cases g : ∀ t, t < 2 -> badL z (L (2 * i + t)) = false
            · refine .inl ⟨by rw [hyy, decide_eq_true g]; rfl, ?_, ?_⟩
              · have := of_decide_eq_false (g 0 (by omega)); rw [Nat.add_zero] at this; omega
              · have := of_decide_eq_false (g 1 (by omega)); omega
            · refine .inr ⟨by rw [hyy, decide_eq_false g]; rfl, fun a => g fun t ht => ?_⟩
              rcases (show t = 0 \/ t = 1 by omega) with rfl | rfl
              · exact decide_eq_false (by rw [Nat.add_zero]; omega)
              · exact decide_eq_false (by omega)
          clear hrule hread bd hy
          cases y
          · go_wp2_with fail
            rw [<- hwd]
            clear hwd c0 c1
            refine HX.mono ?_
            rintro e w' ⟨rfl, hw'⟩
            obtain rfl := hw'.symm
            go_wp2_with fail
            go_roundw
            case rel =>
              refine ⟨i + 1, by omega, by go_num, HD2.out, fun j hj => ?_⟩
              rcases HY.out with ⟨_, g0, g1⟩ | ⟨g, _⟩
              · by_cases e0 : j < 2 * i
                · exact hall.out j e0
                · rcases (show j = 2 * i \/ j = 2 * i + 1 by omega) with rfl | rfl
                  · exact g0
                  · exact g1
              · cases g
            case measure => simp [intOf]; omega
          · go_wp2_with fail
            rw [<- hwd]
            clear hwd c0 c1
            refine HX.mono ?_
            rintro e w' ⟨rfl, hw'⟩
            obtain rfl := hw'.symm
            go_wp2_with fail
            go_ret
            refine ⟨ret_int ?_, below_then HC.out HD2.out⟩
            rcases HE.out with ⟨g, _⟩ | ⟨_, g⟩
            · exfalso
              rcases HY.out with ⟨g2, _⟩ | ⟨_, g2⟩
              · cases g2
              · exact g2 ⟨g (2 * i) (by omega), g (2 * i + 1) (by omega)⟩
            · exact g.symm
        · obtain rfl : i = rn := by omega
          go_wp2_with fail
          go_ret
          refine ⟨ret_int ?_, below_then HC.out hbw.out⟩
          rcases HE.out with ⟨_, g⟩ | ⟨g, _⟩
          · exact g.symm
          · exact absurd (fun j hj => hall.out j hj) g
    · have hnn : ((rn : Int) != (N : Int)) = true := by simp; omega
      obtain rfl : E = 120 := by rw [if_neg fun a => hn a.1] at hE; exact hE.symm
      clear hE hr
      go_enter Tryz.func129, Tryz.ntmps129
      go_wp2_with fail
      rw [<- hw0]
      refine (HD _).mono ?_
      rintro e wa ⟨rfl, ha⟩
      go_wp2_with fail
      go_ret
      exact ⟨rfl, below_then b0 ha⟩
  · obtain rfl : x = E := by unfold erR at hE; rw [if_neg hx] at hE; exact hE
    have hnn : (x != 0) = true := by simp [hx]
    clear hE hr
    go_enter Tryz.func129, Tryz.ntmps129
    go_wp2_with fail
    rw [<- hw0]
    refine (HD _).mono ?_
    rintro e wa ⟨rfl, ha⟩
    go_wp2_with fail
    go_ret
    exact ⟨rfl, below_then b0 ha⟩
end Go.Proofs.YtngcdlodcdgcaaaGreat
