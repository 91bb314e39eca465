import Derived.BigQuiet
import Derived.Test.YtdmpiipllmjloaaGreatPj29
import Derived.Test.YtdmpiipllmjloaaGreatPj35
namespace Go.Proofs.YtdmpiipllmjloaaGreat.Cn
open Go.RowKit Go.Maps Go.ChangeShapes
set_option maxHeartbeats 1000000 in
theorem Winner_any {k r c q : Int} {N W : Nat} {x : Int} (h : Par k r c q N W x) (w : World) (ro : Option Addr) (rn rc : Nat) (A : Nat -> Option Addr) (L C : Nat -> Nat) (F : Nat -> Nat -> UInt8) (hr : Rw w ro rn A L C F) (E : Int) (hE : erR x N c rn L = E) (y : Int) (hy : rdv E (wins k (hP N c L F) (hQ N c L F) N) 0 = y) (z : Bool) (hz : rdb E (wins k (hP N c L F) (hQ N c L F) N) 0 = z) :
    Calls Tryz.prog 31 #[.agg #[.int .i64 k, .int .i64 r, .int .i64 c, .int .i64 q], .slice ro rn rc] w fun e w' => e = .returned (.tuple #[.int .i64 y, .bool z, .int .i64 E]) /\ Below w.heap.size w w' := by
  obtain ⟨w0, hw0⟩ : ∃ w0, w0 = w.alloc (.cells #[.int .i64 k, .int .i64 r, .int .i64 c, .int .i64 q] 23) := ⟨_, rfl⟩
  have b0 : Below w.heap.size w w0 := by rw [hw0]; exact below_alloc _ _
  have HH := readable_any h w0 ro rn rc A L C F (hr.below b0) E hE 0 (by omega) y hy z hz
  clear hr hE h hy hz
  go_enter Tryz.func31, Tryz.ntmps31
  go_wp2_with fail
  rw [<- hw0]
  refine HH.mono ?_
  rintro e wa ⟨rfl, ha⟩
  have BA : Hid (Below w.heap.size w wa) := below_then b0 ha
  clear ha b0 hw0 HH
  go_wp2_with fail
  refine bodyPost_ret (v := .tuple #[.int .i64 y, .bool z, .int .i64 E]) (by simp [results, Tryz.results31, go_sem]) rfl ?_
  exact ⟨rfl, BA.out⟩
def AnsI (w : World) (E : Int) (zs : List Int) (e : Ending) (w' : World) : Prop :=
  ∃ a cap, e = .returned (.tuple #[.slice a (zs.length : Nat) cap, .int .i64 E]) /\ w'.ownsInts w.heap.size 3 .i64 (.slice a zs.length cap) zs /\ Below w.heap.size w w'
theorem ints_mono {w : World} {B B' : Nat} {v : Value} {zs : List Int} (h : w.ownsInts B 3 .i64 v zs) (hb : B' <= B) : w.ownsInts B' 3 .i64 v zs := ⟨row_mono h.1 hb, h.2⟩
end Go.Proofs.YtdmpiipllmjloaaGreat.Cn
namespace Go.Proofs.YtdmpiipllmjloaaGreat.Cn
open Go.RowKit Go.Maps Go.ChangeShapes
set_option maxHeartbeats 4000000 in
set_option maxRecDepth 100000 in
theorem Missing_any {k r c q : Int} {N W : Nat} {x : Int} (h : Par k r c q N W x) (w : World) (ro : Option Addr) (rn rc : Nat) (A : Nat -> Option Addr) (L C : Nat -> Nat) (F : Nat -> Nat -> UInt8) (hr : Rw w ro rn A L C F) (E : Int) (hE : erR x N c rn L = E) (v : Int) (M : Int) (hM : erF E v = M) (zs : List Int) (hzs : (if M = 0 then dl (fun d => !hbv (hP N c L F) (hQ N c L F) v d) N else []) = zs) :
    Calls Tryz.prog 10 #[.agg #[.int .i64 k, .int .i64 r, .int .i64 c, .int .i64 q], .slice ro rn rc, .int .i64 v] w (AnsI w M zs) := by
  obtain ⟨w0, hw0⟩ : ∃ w0, w0 = w.alloc (.cells #[.int .i64 k, .int .i64 r, .int .i64 c, .int .i64 q] 23) := ⟨_, rfl⟩
  have b0 : Below w.heap.size w w0 := by rw [hw0]; exact below_alloc _ _
  have HH := holdings_any h w0 ro rn rc A L C F (hr.below b0) E hE
  unfold AnsH at HH
  have hle := h.le
  clear hr hE h
  generalize hP N c L F = P at *
  generalize hQ N c L F = Q at *
  have HHS := fun u a b => has_any u a b v
  obtain ⟨i0, hi0, hz0, hz1, hz2⟩ := info_parts info3
  unfold AnsI
  by_cases e0 : E = 0
  · subst e0
    rw [show lenE 0 N = N from rfl] at HH
    by_cases hv : 1 <= v /\ v <= 1073741824
    · obtain rfl : M = 0 := by rw [<- hM]; unfold erF; rw [if_pos rfl, if_pos hv]
      rw [if_pos rfl] at hzs
      have HZ : Hid (dl (fun d => !hbv P Q v d) N = zs) := hzs
      have v1 : ¬ v < 1 := by omega
      have v2 : ¬ 1073741824 < v := by omega
      clear hzs hM hv
      go_enter Tryz.func10, Tryz.ntmps10
      go_wp2_with fail
      rw [<- hw0]
      refine HH.mono ?_
      rintro e wa ⟨a, cap, rfl, hh, ha⟩
      have HT : Hid (Hol w0.heap.size wa a N cap P Q) := hh
      have BA : Hid (Below w.heap.size w wa) := below_then b0 ha
      clear hh ha b0 hw0 HH
      go_wp2_with fail
      go_loopw [10, 32] (fun l y wr => ∃ (i : Nat) (a2 : Option Addr) (n2 cap2 : Nat), i <= N /\ y = .int .i64 (i : Int) /\ l = .slice a2 n2 cap2 /\ n2 <= i /\ Hid (wr.ownsInts wa.heap.size 3 .i64 (.slice a2 n2 cap2) (dl (fun d => !hbv P Q v d) i)) /\ Hid (Below wa.heap.size wa wr)) (fun _ y _ => N - (intOf y).toNat)
      case atStart => exact ⟨0, none, 0, 0, Nat.zero_le _, rfl, rfl, Nat.le_refl _, World.ownsInts_nil _ _ _ _, Below.refl _ _⟩
      case round =>
        obtain ⟨i, a2, n2, cap2, hi, rfl, rfl, hn2, hown, hbw⟩ := hrel
        by_cases hlt : i < N
        · obtain ⟨g, rfl, _, hgl⟩ := HT.out.at_ (by omega)
          have c0 : wr.cell? ⟨g, i * 2, none⟩ = some (.int .i64 (P i)) := (hbw.out.cell hgl).trans (HT.out.c0 hlt)
          have c1 : wr.cell? ⟨g, i * 2 + 1, none⟩ = some (.int .i64 (Q i)) := (hbw.out.cell hgl).trans (HT.out.c1 hlt)
          have i1 : (0 : Int) <= (i : Int) := by omega
          have i2 : (i : Int) < (N : Int) := by omega
          obtain ⟨wd, hwd⟩ : ∃ wd, wd = wr.alloc (.cells #[.int .i64 (P i), .int .i64 (Q i)] 72) := ⟨_, rfl⟩
          have BD : Hid (Below wa.heap.size wa wd) := by show Below _ _ _; rw [hwd]; exact b_alloc hbw.out _
          have OD : Hid (wd.ownsInts wa.heap.size 3 .i64 (.slice a2 n2 cap2) (dl (fun d => !hbv P Q v d) i)) := by show World.ownsInts _ _ _ _ _ _; rw [hwd]; exact hown.out.alloc _
          have HX := HHS wd (P i) (Q i)
          cases hb : hbv P Q v i
          · rw [show decide (P i = v \/ Q i = v) = false from hb] at HX
            go_wp2_with fail
            rw [<- hwd]
            clear hwd c0 c1
            refine HX.mono ?_
            rintro e we ⟨rfl, hwe⟩
            have BE2 : Hid (Below wa.heap.size wa we) := below_step BD.out hwe BD.out.size
            have OE := ownsInts_below OD.out hwe
            clear hwe HX
            have HLL : Hid (n2 = (dl (fun d => !hbv P Q v d) i).length) := ints_len OE
            have hl2 : (dl (fun d => !hbv P Q v d) i).length <= 32 := by rw [<- HLL.out]; omega
            go_wp2_with (first
              | (at_builtin; refine wpList_append_own_at _ rfl _ _ 38 rfl wa.heap.size 3 i0 (.int .i64 0) 1 8 Tryz.underlying38 hi0 hz0 hz1 hz2 rfl (by decide) _ _ _ rfl (OE.1.alloc _) ⟨we.heap.size, 0, none⟩ 1 1 [.int .i64 (i : Int)] rfl rfl (cell_one_new _ _ _) (ints_oneCell .i64 [(i : Int)]) (by unfold maxLen; omega) (by omega) (by have := BE2.out.size; simp; omega) ?_; intro v' w2 hown2 hgrow hnil hloc)
              | go_in)
            obtain ⟨a3, cap3, rfl⟩ := own_form hown2
            have hap := OE.appended hown2 (WalkArith.wf_i64 (by omega))
            have hll := HLL.out
            rw [<- hll] at hap
            go_roundw
            case rel =>
              refine ⟨i + 1, a3, n2 + 1, cap3, by omega, by go_num, by rw [<- hll], by omega, ?_, ?_⟩
              · show World.ownsInts _ _ _ _ _ _
                rw [dl, hb, if_pos (by rfl)]; exact hap
              · exact (b_alloc BE2.out _).grown hgrow (by have := BE2.out.size; simp; omega) (fun j hj => (OE.1.lt j hj).1)
            case measure => simp [intOf]; omega
          · rw [show decide (P i = v \/ Q i = v) = true from hb] at HX
            go_wp2_with fail
            rw [<- hwd]
            clear hwd c0 c1
            refine HX.mono ?_
            rintro e we ⟨rfl, hwe⟩
            have BE2 : Hid (Below wa.heap.size wa we) := below_step BD.out hwe BD.out.size
            have OE : Hid (we.ownsInts wa.heap.size 3 .i64 (.slice a2 n2 cap2) (dl (fun d => !hbv P Q v d) i)) := ownsInts_below OD.out hwe
            clear hwe HX
            go_wp2_with fail
            go_roundw
            case rel =>
              refine ⟨i + 1, a2, n2, cap2, by omega, by go_num, rfl, by omega, ?_, BE2.out⟩
              show World.ownsInts _ _ _ _ _ _
              rw [dl, hb, if_neg (by decide)]; exact OE.out
            case measure => simp [intOf]; omega
        · obtain rfl : i = N := by omega
          obtain rfl : zs = dl (fun d => !hbv P Q v d) i := HZ.out.symm
          go_wp2_with fail
          go_ret2
          have hll := ints_len hown.out
          refine ⟨a2, cap2, by rw [<- hll]; rfl, ?_, below_step BA.out hbw.out BA.out.size⟩
          rw [<- hll]; exact ints_mono hown.out BA.out.size
    · obtain rfl : M = 2 := by rw [<- hM]; unfold erF; rw [if_pos rfl, if_neg hv]
      rw [if_neg (by decide)] at hzs
      subst hzs
      clear hM
      by_cases v1 : v < 1
      · clear hv
        go_enter Tryz.func10, Tryz.ntmps10
        go_wp2_with fail
        rw [<- hw0]
        refine HH.mono ?_
        rintro e wa ⟨a, cap, rfl, hh, ha⟩
        have BA : Hid (Below w.heap.size w wa) := below_then b0 ha
        clear hh ha b0 hw0 HH
        go_wp2_with fail
        go_ret2
        exact ⟨none, 0, rfl, World.ownsInts_nil _ _ _ _, BA.out⟩
      · have v2 : 1073741824 < v := by omega
        clear hv
        go_enter Tryz.func10, Tryz.ntmps10
        go_wp2_with fail
        rw [<- hw0]
        refine HH.mono ?_
        rintro e wa ⟨a, cap, rfl, hh, ha⟩
        have BA : Hid (Below w.heap.size w wa) := below_then b0 ha
        clear hh ha b0 hw0 HH
        go_wp2_with fail
        go_ret2
        exact ⟨none, 0, rfl, World.ownsInts_nil _ _ _ _, BA.out⟩
  · have hq : (E != 0) = true := by simpa using e0
    obtain rfl : E = M := by rw [<- hM]; unfold erF; rw [if_neg e0]
    rw [if_neg e0] at hzs
    subst hzs
    rw [show lenE E N = 0 from if_neg e0] at HH
    clear hM
    go_enter Tryz.func10, Tryz.ntmps10
    go_wp2_with fail
    rw [<- hw0]
    refine HH.mono ?_
    rintro e wa ⟨a, cap, rfl, hh, ha⟩
    have BA : Hid (Below w.heap.size w wa) := below_then b0 ha
    clear hh ha b0 hw0 HH
    go_wp2_with fail
    go_ret2
    exact ⟨none, 0, rfl, World.ownsInts_nil _ _ _ _, BA.out⟩
end Go.Proofs.YtdmpiipllmjloaaGreat.Cn
namespace Go.Proofs.YtdmpiipllmjloaaGreat
theorem cnt_dl (L : Nat -> Nat) : ∀ n, Cod.cnt L n = (Cn.dl (fun i => decide (L i ≠ 0)) n).length
  | 0 => rfl
  | n + 1 => by
    have ih := cnt_dl L n
    rw [Cn.dl]
    by_cases h : L n = 0
    · rw [Cod.cnt_skip h, if_neg (by simp [h]), ih]
    · rw [Cod.cnt_take h, if_pos (by simp [h]), ih]; simp
theorem dl_upto {p : Nat -> Bool} {n : Nat} : ∀ {N : Nat}, n <= N -> (∀ i, n <= i -> i < N -> p i = false) -> Cn.dl p N = Cn.dl p n
  | 0, h, _ => by rw [show n = 0 by omega]
  | N + 1, h, hp => by
    by_cases e : n = N + 1
    · rw [e]
    · rw [Cn.dl, if_neg (by rw [hp N (by omega) (by omega)]; decide)]; exact dl_upto (by omega) fun i h1 h2 => hp i h1 (by omega)
theorem mx_all {V : Nat -> Int} {v : Int} (hv : 1 <= v) : ∀ {n : Nat}, 0 < n -> (∀ l, l < n -> V l = v) -> mx V n = v
  | 0, h, _ => absurd h (by omega)
  | 1, _, h => by rw [mx, mx, gr, h 0 (by omega)]; split <;> omega
  | n + 2, _, h => by rw [mx, mx_all hv (n := n + 1) (by omega) (fun l hl => h l (by omega)), gr, h _ (by omega)]; split <;> omega
theorem wins_first {k : Int} {P Q : Nat -> Int} {N : Nat} {v : Int} (hv : v ≠ 0) (hk1 : 1 <= k) (hk : k <= (Cn.ct P Q N v : Int)) (hno : ∀ u, v < u -> ¬ k <= (Cn.ct P Q N u : Int)) : (Cn.wins k P Q N).getD 0 0 = v /\ 0 < (Cn.wins k P Q N).length := by
  have hm : v ∈ Cn.wins k P Q N := by
    unfold Cn.wins
    refine List.mem_filter.2 ⟨Cn.mem_tv.2 ⟨hv, fun e => ?_⟩, decide_eq_true hk⟩
    unfold Cn.ct at hk; rw [e] at hk; simp at hk; omega
  have hf : (Cn.wins k P Q N).Pairwise (fun a b => b < a) := (Cn.tvL_fall P Q N).filter _
  have hin : ∀ u, u ∈ Cn.wins k P Q N -> k <= (Cn.ct P Q N u : Int) := fun u hu => of_decide_eq_true (List.mem_filter.1 hu).2
  cases h : Cn.wins k P Q N with
  | nil => rw [h] at hm; cases hm
  | cons a r =>
    rw [h] at hm hf hin
    refine ⟨?_, by simp⟩
    show a = v
    rcases List.mem_cons.1 hm with e | e
    · exact e.symm
    · exact absurd (hin a (by simp)) (hno a ((List.pairwise_cons.1 hf).1 v e))
theorem wins_top {k : Int} {P Q : Nat -> Int} {N : Nat} (hk1 : 1 <= k) (h : 0 < (Cn.wins k P Q N).length) {v : Int} (hv : (Cn.wins k P Q N).getD 0 0 = v) : v ≠ 0 /\ k <= (Cn.ct P Q N v : Int) /\ ∀ u, v < u -> u ≠ 0 -> ¬ k <= (Cn.ct P Q N u : Int) := by
  have hf : (Cn.wins k P Q N).Pairwise (fun a b => b < a) := (Cn.tvL_fall P Q N).filter _
  have hin : ∀ u, u ∈ Cn.wins k P Q N -> u ≠ 0 /\ k <= (Cn.ct P Q N u : Int) := fun u hu => ⟨(Cn.mem_tv.1 (List.mem_filter.1 hu).1).1, of_decide_eq_true (List.mem_filter.1 hu).2⟩
  have hall : ∀ u, u ≠ 0 -> k <= (Cn.ct P Q N u : Int) -> u ∈ Cn.wins k P Q N := fun u hu hk => by
    unfold Cn.wins
    refine List.mem_filter.2 ⟨Cn.mem_tv.2 ⟨hu, fun e => ?_⟩, decide_eq_true hk⟩
    unfold Cn.ct at hk; rw [e] at hk; simp at hk; omega
  cases e : Cn.wins k P Q N with
  | nil => rw [e] at h; simp at h
  | cons a r =>
    rw [e] at hf hin hv hall
    obtain rfl : a = v := hv
    obtain ⟨h1, h2⟩ := hin a (by simp)
    refine ⟨h1, h2, fun u hu h0 hk => ?_⟩
    rcases List.mem_cons.1 (hall u h0 hk) with g | g
    · omega
    · have := (List.pairwise_cons.1 hf).1 u g; omega
def Pu (N : Nat) (Y : Nat -> Sl) : Prop := ∀ j, j < 2 * N -> (Y j).kd = 2 -> ∀ l, l < N -> (Y j).V l = (Y j).ce
def hd (Y : Nat -> Sl) (v : Int) (i : Nat) : Bool := hB (Y (2 * i)) 2 v || hB (Y (2 * i + 1)) 2 v
theorem hd_true {Y : Nat -> Sl} {v : Int} {i : Nat} : hd Y v i = true ↔ hB (Y (2 * i)) 2 v = true \/ hB (Y (2 * i + 1)) 2 v = true := by unfold hd; simp
theorem hd_false {Y : Nat -> Sl} {v : Int} {i : Nat} (h : hd Y v i = false) : hB (Y (2 * i)) 2 v = false /\ hB (Y (2 * i + 1)) 2 v = false := by unfold hd at h; simpa using h
theorem kd_is {N : Nat} {c : Int} {Y : Nat -> Sl} (hY : OkY N c Y) {j : Nat} (hj : j < 2 * N) (h : (Y j).kd = 2) : Is N c (Y j) (j / 2) := by
  rcases hY j hj with e | e
  · rw [e] at h; exact absurd h (by decide)
  · exact e
theorem ev_pure {N : Nat} {c : Int} {Y : Nat -> Sl} (hY : OkY N c Y) (hp : Pu N Y) {j : Nat} (hj : j < 2 * N) {v : Int} (hv : v ≠ 0) : Cn.ev (ofK 2 (Y j)) = v ↔ hB (Y j) 2 v = true := by
  by_cases h : (Y j).kd = 2
  · have hi := kd_is hY hj h
    have e1 : ofK 2 (Y j) = Y j := by unfold ofK; rw [if_pos h]
    have e2 : Cn.ev (Y j) = (Y j).ce := by unfold Cn.ev; rw [if_pos (fun i hi' => hp j hj h i (by rw [(ok_of hi.1).vn] at hi'; exact hi'))]
    rw [e1, e2]
    exact ⟨fun e => hB_of hv h e, fun e => (hB_true e).2.2⟩
  · have e1 : ofK 2 (Y j) = zSl := by unfold ofK; rw [if_neg h]
    rw [e1]
    constructor
    · intro e; exact absurd e.symm hv
    · intro e; exact absurd (hB_true e).2.1 h
theorem hbv_hd {N : Nat} {c : Int} {L : Nat -> Nat} {F : Nat -> Nat -> UInt8} (hp : Pu N (yy N c L F)) {v : Int} (hv : v ≠ 0) {i : Nat} (hi : i < N) : Cn.hbv (Cn.hP N c L F) (Cn.hQ N c L F) v i = hd (yy N c L F) v i := by
  have a := ev_pure (yy_ok N c L F) hp (j := 2 * i) (by omega) hv
  have b := ev_pure (yy_ok N c L F) hp (j := 2 * i + 1) (by omega) hv
  have ea : Cn.hP N c L F i = Cn.ev (ofK 2 (yy N c L F (2 * i))) := by unfold Cn.hP Cn.hs yy; rw [show 2 * i / 2 = i by omega]
  have eb : Cn.hR N c L F i = Cn.ev (ofK 2 (yy N c L F (2 * i + 1))) := by unfold Cn.hR Cn.hs yy; rw [show (2 * i + 1) / 2 = i by omega]
  rw [Bool.eq_iff_iff, hd_true, <- a, <- b, <- ea, <- eb, <- Cn.hQ_or N c L F i hv]
  unfold Cn.hbv; simp
def ch (Y : Nat -> Sl) (N : Nat) (v : Int) : Nat := (Cn.dl (hd Y v) N).length
theorem ct_ch {N : Nat} {c : Int} {L : Nat -> Nat} {F : Nat -> Nat -> UInt8} (hp : Pu N (yy N c L F)) {v : Int} (hv : v ≠ 0) : Cn.ct (Cn.hP N c L F) (Cn.hQ N c L F) N v = ch (yy N c L F) N v := by
  unfold Cn.ct Cn.dv ch
  rw [Cn.dl_congr fun i hi => hbv_hd hp hv hi]
theorem st_ce {N : Nat} {c : Int} {Y : Nat -> Sl} (hY : OkY N c Y) (hp : Pu N Y) {j : Nat} (hj : j < 2 * N) (h : (Y j).kd = 2) : (Y j).st = (Y j).ce := by
  have hi := kd_is hY hj h
  have ho := ok_of hi.1
  have h1 := ho.V 0 (by omega)
  rw [ho.st]
  exact mx_all (by rw [hp j hj h 0 (by omega)] at h1; exact h1.1) (by omega) (hp j hj h)
theorem zz_pure {N : Nat} {c : Int} {Y : Nat -> Sl} (hY : OkY N c Y) (hp : Pu N Y) {v : Int} {i : Nat} (hi : i < N) : zz Y 2 (tS Y 2 v (2 * N)) i = fZ (Y (2 * i)) (Y (2 * i + 1)) 2 v := by
  have key : ∀ j, j < 2 * N -> hB (Y j) 2 v = true -> tB (Y j) 2 v = true := fun j hj hb => by
    obtain ⟨_, a, b⟩ := hB_true hb
    exact decide_eq_true ⟨a, by rw [st_ce hY hp hj a]; exact b⟩
  rcases tS_is (v := v) (.inr rfl) hY (2 * N) (Nat.le_refl _) with ⟨h1, h2⟩ | ⟨j, h1, h2, h3, h4, h5⟩
  · rw [h1]
    have n : ∀ j, j < 2 * N -> hB (Y j) 2 v = false := fun j hj => by
      cases e : hB (Y j) 2 v
      · rfl
      · have := h2 j hj; rw [key j hj e] at this; cases this
    unfold zz fZ
    rw [if_pos (show zSl.ce = 0 from rfl), n _ (by omega), n _ (by omega), if_neg Bool.false_ne_true, if_neg Bool.false_ne_true]
  · obtain ⟨a, b⟩ := of_decide_eq_true h3
    have hc := st_ce hY hp h1 a
    unfold zz
    rw [h2, if_neg (ok_of h4.1).ne, hp j h1 a i hi, <- hc, b]
theorem hd_zz {N : Nat} {c : Int} {Y : Nat -> Sl} (hY : OkY N c Y) {v : Int} {i : Nat} (hi : i < N) : (hd Y v i = true ↔ (fZ (Y (2 * i)) (Y (2 * i + 1)) 2 v).ce ≠ 0) /\ (hd Y v i = false -> fZ (Y (2 * i)) (Y (2 * i + 1)) 2 v = zSl) := by
  obtain ⟨p0, p1⟩ := pair_of hY hi
  rcases fZ_is (kd := 2) (v := v) p0 p1 with ⟨h, a, b⟩ | ⟨h, a, b, d⟩
  · rw [h]
    refine ⟨⟨fun e => ?_, fun e => absurd rfl e⟩, fun _ => rfl⟩
    rcases hd_true.1 e with e | e
    · rw [a] at e; cases e
    · rw [b] at e; cases e
  · have hh : hd Y v i = true := by
      cases e : hd Y v i
      · obtain ⟨e1, e2⟩ := hd_false e
        unfold fZ at b
        rw [e1, if_neg Bool.false_ne_true, e2, if_neg Bool.false_ne_true] at b
        exact absurd b.symm d
      · rfl
    exact ⟨⟨fun _ => by rw [b]; exact d, fun _ => hh⟩, fun e => by rw [hh] at e; cases e⟩
structure Cg (N : Nat) (c : Int) (v : Int) (G : Nat -> Nat -> UInt8) (Y Y' : Nat -> Sl) (wr lf : Nat -> Bool) (ke : Int) : Prop where
  gone : ∀ i, i < N -> lf i = false -> Y' (2 * i) = zSl /\ Y' (2 * i + 1) = zSl
  same : ∀ i, i < N -> lf i = true -> wr i = false -> Y' (2 * i) = Y (2 * i) /\ Y' (2 * i + 1) = Y (2 * i + 1)
  new : ∀ i, i < N -> lf i = true -> wr i = true -> ∃ s, (s = 0 \/ s = 1) /\ New N c 2 v (fun _ => v) G i (Y' (2 * i + s)) /\ Y' (2 * i + (1 - s)) = Y (2 * i + (1 - s)) /\ (ke ≠ 0 -> hB (Y (2 * i + s)) 2 ke = false)
  not : ∀ i, i < N -> wr i = true -> hd Y v i = false
theorem Cg.pair {N : Nat} {c v : Int} {G : Nat -> Nat -> UInt8} {Y Y' : Nat -> Sl} {wr lf : Nat -> Bool} {ke : Int} (h : Cg N c v G Y Y' wr lf ke) {j : Nat} (hj : j < 2 * N) : Y' j = zSl \/ Y' j = Y j \/ New N c 2 v (fun _ => v) G (j / 2) (Y' j) := by
  have h2 : j = 2 * (j / 2) + j % 2 := by omega
  have hi : j / 2 < N := by omega
  cases hl : lf (j / 2)
  · obtain ⟨a, b⟩ := h.gone _ hi hl
    rcases Nat.mod_two_eq_zero_or_one j with z | z
    · rw [h2, z]; exact .inl a
    · rw [h2, z]; exact .inl b
  · cases hw : wr (j / 2)
    · obtain ⟨a, b⟩ := h.same _ hi hl hw
      rcases Nat.mod_two_eq_zero_or_one j with z | z
      · rw [h2, z]; exact .inr (.inl a)
      · rw [h2, z]; exact .inr (.inl b)
    · obtain ⟨s, hs, a, b, _⟩ := h.new _ hi hl hw
      by_cases e : j % 2 = s
      · rw [<- e, <- h2] at a; exact .inr (.inr a)
      · rw [show 1 - s = j % 2 by omega, <- h2] at b; exact .inr (.inl b)
theorem Cg.pu {N : Nat} {c v : Int} {G : Nat -> Nat -> UInt8} {Y Y' : Nat -> Sl} {wr lf : Nat -> Bool} {ke : Int} (h : Cg N c v G Y Y' wr lf ke) (hp : Pu N Y) : Pu N Y' := fun j hj hk l hl => by
  rcases h.pair hj with e | e | e
  · rw [e] at hk; exact absurd hk (by decide)
  · rw [e] at hk ⊢; exact hp j hj hk l hl
  · rw [e.V l hl, e.ce]
theorem Cg.sub {N : Nat} {c v : Int} {G : Nat -> Nat -> UInt8} {Y Y' : Nat -> Sl} {wr lf : Nat -> Bool} {ke : Int} (h : Cg N c v G Y Y' wr lf ke) {u : Int} (huv : u ≠ v) {i : Nat} (hi : i < N) (hh : hd Y' u i = true) : hd Y u i = true := by
  have key : ∀ j, j < 2 * N -> hB (Y' j) 2 u = true -> hB (Y j) 2 u = true := fun j hj e => by
    rcases h.pair hj with g | g | g
    · rw [g, hB_z 2 u] at e; cases e
    · rw [g] at e; exact e
    · exact absurd ((hB_true e).2.2.symm.trans g.ce) huv
  rcases hd_true.1 hh with e | e
  · exact hd_true.2 (.inl (key _ (by omega) e))
  · exact hd_true.2 (.inr (key _ (by omega) e))
theorem Cg.fewer {N : Nat} {c v : Int} {G : Nat -> Nat -> UInt8} {Y Y' : Nat -> Sl} {wr lf : Nat -> Bool} {ke : Int} (h : Cg N c v G Y Y' wr lf ke) {u : Int} (huv : u ≠ v) : ch Y' N u <= ch Y N u := Cn.dl_sub fun _ hi => h.sub huv hi
theorem Cg.here {N : Nat} {c v : Int} {G : Nat -> Nat -> UInt8} {Y Y' : Nat -> Sl} {wr lf : Nat -> Bool} {ke : Int} (h : Cg N c v G Y Y' wr lf ke) (hv : v ≠ 0) {i : Nat} (hi : i < N) :
    (lf i = false -> fZ (Y' (2 * i)) (Y' (2 * i + 1)) 2 v = zSl) /\ (lf i = true -> wr i = false -> fZ (Y' (2 * i)) (Y' (2 * i + 1)) 2 v = fZ (Y (2 * i)) (Y (2 * i + 1)) 2 v) /\ (lf i = true -> wr i = true -> New N c 2 v (fun _ => v) G i (fZ (Y' (2 * i)) (Y' (2 * i + 1)) 2 v)) := by
  refine ⟨fun e => ?_, fun e g => ?_, fun e g => ?_⟩
  · obtain ⟨a, b⟩ := h.gone i hi e
    unfold fZ
    rw [a, b, hB_z 2 v, if_neg Bool.false_ne_true, if_neg Bool.false_ne_true]
  · obtain ⟨a, b⟩ := h.same i hi e g
    rw [a, b]
  · obtain ⟨s, hs, a, b, _⟩ := h.new i hi e g
    obtain ⟨n0, n1⟩ := hd_false (h.not i hi g)
    have hb : hB (Y' (2 * i + s)) 2 v = true := hB_of hv a.kd a.ce
    have hz : fZ (Y' (2 * i)) (Y' (2 * i + 1)) 2 v = Y' (2 * i + s) := by
      unfold fZ
      rcases hs with rfl | rfl
      · rw [Nat.add_zero] at hb; rw [hb, if_pos rfl]; rfl
      · rw [show 1 - 1 = 0 from rfl, Nat.add_zero] at b
        rw [b, n0, if_neg Bool.false_ne_true, hb, if_pos rfl]
    rw [hz]; exact a
theorem Cg.kept {N : Nat} {c v : Int} {G : Nat -> Nat -> UInt8} {Y Y' : Nat -> Sl} {wr lf : Nat -> Bool} {ke : Int} (h : Cg N c v G Y Y' wr lf ke) (hk : ke ≠ 0) (hkv : ke ≠ v) {i : Nat} (hi : i < N) :
    (lf i = false -> fZ (Y' (2 * i)) (Y' (2 * i + 1)) 2 ke = zSl) /\ (lf i = true -> fZ (Y' (2 * i)) (Y' (2 * i + 1)) 2 ke = fZ (Y (2 * i)) (Y (2 * i + 1)) 2 ke) := by
  refine ⟨fun e => ?_, fun e => ?_⟩
  · obtain ⟨a, b⟩ := h.gone i hi e
    unfold fZ
    rw [a, b, hB_z 2 ke, if_neg Bool.false_ne_true, if_neg Bool.false_ne_true]
  · cases g : wr i
    · obtain ⟨a, b⟩ := h.same i hi e g
      rw [a, b]
    · obtain ⟨s, hs, a, b, d⟩ := h.new i hi e g
      have d := d hk
      have hn : hB (Y' (2 * i + s)) 2 ke = false := hB_no (by rw [a.ce]; exact fun q => hkv q.symm)
      unfold fZ
      rcases hs with rfl | rfl
      · rw [Nat.add_zero] at d hn
        rw [show 1 - 0 = 1 from rfl] at b
        rw [hn, d, b]; rfl
      · rw [show 1 - 1 = 0 from rfl, Nat.add_zero] at b
        rw [hn, d, b]; rfl
theorem Cg.hdk {N : Nat} {c v : Int} {G : Nat -> Nat -> UInt8} {Y Y' : Nat -> Sl} {wr lf : Nat -> Bool} {ke : Int} (h : Cg N c v G Y Y' wr lf ke) (hY : OkY N c Y) (hY' : OkY N c Y') (hk : ke ≠ 0) (hkv : ke ≠ v) {i : Nat} (hi : i < N) (hh : hd Y ke i = true) : hd Y' ke i = lf i := by
  obtain ⟨a, b⟩ := h.kept hk hkv hi
  cases e : lf i
  · cases g : hd Y' ke i
    · rfl
    · have := ((hd_zz (v := ke) hY' hi).1).1 g; rw [a e] at this; exact absurd rfl this
  · have h1 := ((hd_zz (v := ke) hY hi).1).1 hh
    rw [<- b e] at h1
    exact ((hd_zz (v := ke) hY' hi).1).2 h1
theorem Cg.hdv {N : Nat} {c v : Int} {G : Nat -> Nat -> UInt8} {Y Y' : Nat -> Sl} {wr lf : Nat -> Bool} {ke : Int} (h : Cg N c v G Y Y' wr lf ke) (hY : OkY N c Y) (hY' : OkY N c Y') (hv : v ≠ 0) {i : Nat} (hi : i < N) : hd Y' v i = (lf i && (wr i || hd Y v i)) := by
  obtain ⟨a, b, d⟩ := h.here hv hi
  cases e : lf i
  · cases g : hd Y' v i
    · rfl
    · have := ((hd_zz (v := v) hY' hi).1).1 g; rw [a e] at this; exact absurd rfl this
  · cases g : wr i
    · rw [Bool.true_and, Bool.false_or, Bool.eq_iff_iff, (hd_zz (v := v) hY' hi).1, (hd_zz (v := v) hY hi).1, b e g]
    · rw [Bool.true_or, Bool.and_true]
      exact ((hd_zz (v := v) hY' hi).1).2 (new_ne (d e g))
end Go.Proofs.YtdmpiipllmjloaaGreat
