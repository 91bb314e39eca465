import Derived.BigQuiet
import Derived.Test.YtmoenmpbkockoaaGreatWj47
import Derived.Test.YtmoenmpbkockoaaGreatWj48
import Derived.Test.YtmoenmpbkockoaaGreatVj1
namespace Go.Proofs.YtmoenmpbkockoaaGreat
open Go.RowKit
theorem Stripes_tr {k r c q : Int} {n : Nat} {F : Nat -> List UInt8} {o E A D : Int} {M : Nat} {R V : Nat -> Int} {y : Int} {l s : Nat} {SR SV : Nat -> Int} (h : Ob k r c q n F o E A D M R V y l s SR SV) (w : World) (lo : Option Addr) (cl : Nat) (hcl : n <= cl) (A0 : Nat -> Option Addr) (C0 : Nat -> Nat) (hl : Im.Lst w lo n A0 C0 F) :
    Calls Tryz.prog 24 #[.agg #[.int .i64 k, .int .i64 r, .int .i64 c, .int .i64 q, .slice lo n cl], .int .i64 o] w (AnsLv w E (l + s + 1) (lvA o l R SR) (lvA y l V SV)) := by
  by_cases hE : E = 0
  · subst hE
    obtain ⟨_, _, _, _, h1, h2⟩ := ob_good h
    exact Stripes_good w lo n cl o A D M R V y l s (by omega) (by omega) SR SV (fun u hu => Object_any h u lo cl hcl A0 C0 (hl.below hu))
  · exact Stripes_bad w lo n cl o E hE A D M R V y l s SR SV (fun u hu => Object_any h u lo cl hcl A0 C0 (hl.below hu)) _ _ _
theorem ob_none : Ob 0 0 0 0 0 (fun _ => []) 0 2 0 0 0 (fun _ => 0) (fun _ => 0) 0 0 0 (fun _ => 0) (fun _ => 0) :=
  .inl ⟨by decide, 0, fun _ => [], 2, 0, 0, 0, .inr (.inl ⟨rfl, by decide, rfl, rfl, rfl⟩), .inr ⟨⟨rfl, rfl⟩, .inl ⟨by decide, rfl⟩⟩⟩
set_option maxHeartbeats 1000000 in
set_option maxRecDepth 100000 in
theorem awake_any (w : World) : Calls Tryz.prog 20 #[] w fun e w' => e = .returned (.bool true) /\ Below w.heap.size w w' := by
  have HR : Hid (∀ w, Calls Tryz.prog 23 #[.agg #[.int .i64 0, .int .i64 0, .int .i64 0, .int .i64 0, .slice none 0 0], .int .i64 0] w fun e w' => e = .returned (.tuple #[.slice none 0 0, .int .i64 2]) /\ Below w.heap.size w w') := fun w => Rows_bad w none 0 0 0 2 (by decide) _ _ _ (fun u _ => Stripes_tr ob_none u none 0 (Nat.le_refl _) (fun _ => none) (fun _ => 0) (Im.lst_none _ _ _ _ _))
  go_enter Tryz.func20, Tryz.ntmps20
  go_wp2_with fail
  refine (HR.out _).mono ?_
  rintro e wa ⟨rfl, ha⟩
  clear HR
  go_wp2_with fail
  go_ret
  exact ⟨rfl, ha⟩
end Go.Proofs.YtmoenmpbkockoaaGreat
namespace Go.Proofs.YtmoenmpbkockoaaGreat
open Go.RowKit
set_option maxHeartbeats 4000000 in
set_option maxRecDepth 100000 in
theorem wiped_bad {k r c q : Int} {n : Nat} {F : Nat -> List UInt8} {o E A D : Int} {M : Nat} {R V : Nat -> Int} {y : Int} {l s : Nat} {SR SV : Nat -> Int} (h : Ob k r c q n F o E A D M R V y l s SR SV) (hE : E ≠ 0) (w : World) (lo : Option Addr) (cl : Nat) (hcl : n <= cl) (A0 : Nat -> Option Addr) (C0 : Nat -> Nat) (hl : Im.Lst w lo n A0 C0 F) (xo : Option Addr) (xn xc : Nat) :
    Calls Tryz.prog 6 #[.agg #[.int .i64 k, .int .i64 r, .int .i64 c, .int .i64 q, .slice lo n cl], .int .i64 o, .slice xo xn xc] w fun e w' => e = .returned (.bool true) /\ Below w.heap.size w w' := by
  have hz : (E != 0) = true := by simpa using hE
  have hz2 : (E == 0) = false := by simpa using hE
  have HO : Hid (∀ u, Below w.heap.size w u -> Calls Tryz.prog 22 #[.agg #[.int .i64 k, .int .i64 r, .int .i64 c, .int .i64 q, .slice lo n cl], .int .i64 o] u (AnsO u E A D M R V y l s SR SV)) := fun u hu => Object_any h u lo cl hcl A0 C0 (hl.below hu)
  have HA : Hid (∀ u, Calls Tryz.prog 20 #[] u fun e w' => e = .returned (.bool true) /\ Below u.heap.size u w') := fun u => awake_any u
  have HB : Hid (∀ u, Calls Tryz.prog 21 #[.agg #[.int .i64 k, .int .i64 r, .int .i64 c, .int .i64 q, .slice lo n cl]] u fun e w' => (∃ b, e = .returned (.bool b)) /\ Below u.heap.size u w') := fun u => big_any k r c q lo n cl u
  unfold AnsO at HO
  rw [lenE_ne _ hE, lenE_ne _ hE, lenE_ne _ hE, De.lenI_not hE, De.lenI_not hE, De.lenI_not hE] at HO
  clear hE h hl
  obtain ⟨w0, hw0⟩ : ∃ w0, w0 = w.alloc (.cells #[.int .i64 k, .int .i64 r, .int .i64 c, .int .i64 q, .slice lo n cl] 51) := ⟨_, rfl⟩
  have b0 : Below w.heap.size w w0 := by rw [hw0]; exact below_alloc _ _
  have HQ : Hid (∀ u, Below w0.heap.size w0 u -> u.cell? ⟨w.heap.size, 0, none⟩ = some (.int .i64 k) /\ u.cell? ⟨w.heap.size, 1, none⟩ = some (.int .i64 r) /\ u.cell? ⟨w.heap.size, 2, none⟩ = some (.int .i64 c) /\ u.cell? ⟨w.heap.size, 3, none⟩ = some (.int .i64 q) /\ u.cell? ⟨w.heap.size, 4, none⟩ = some (.slice lo n cl)) := fun u hu => mea_held hw0 hu
  have HB0 : Hid (Below w.heap.size w w0) := b0
  go_enter Tryz.func6, Tryz.ntmps6
  go_wp2_with fail
  rw [<- hw0]
  clear hw0 b0
  refine (HA.out _).mono ?_
  rintro e wa ⟨rfl, ha⟩
  obtain ⟨s0, s1, s2, s3, s4⟩ := HQ.out wa ha
  go_wp2_with fail
  refine (HB.out _).mono ?_
  rintro e wb ⟨⟨b, rfl⟩, hb⟩
  have hab := below_then ha hb
  clear s0 s1 s2 s3 s4 ha hb
  obtain ⟨s0, s1, s2, s3, s4⟩ := HQ.out wb hab
  cases b
  · go_wp2_with fail
    refine (HO.out _ (below_then HB0.out hab)).mono ?_
    rintro e wc ⟨ao, cp, lo', lc, so, sc, rfl, _, _, _, hc⟩
    have hac := below_then hab hc
    clear s0 s1 s2 s3 s4 hab hc HO HA HB
    go_wp2_with fail
    go_ret
    exact ⟨rfl, below_then HB0.out (below_then hac (below_alloc _ _))⟩
  · go_wp2_with fail
    go_ret
    exact ⟨rfl, below_then HB0.out hab⟩
set_option maxHeartbeats 4000000 in
set_option maxRecDepth 100000 in
theorem wiped_far {k r c q : Int} {n : Nat} {F : Nat -> List UInt8} {o A D : Int} {M : Nat} {R V : Nat -> Int} {y : Int} {l s : Nat} {SR SV : Nat -> Int} (h : Ob k r c q n F o 0 A D M R V y l s SR SV) (w : World) (lo : Option Addr) (cl : Nat) (hcl : n <= cl) (A0 : Nat -> Option Addr) (C0 : Nat -> Nat) (hl : Im.Lst w lo n A0 C0 F) (xo : Option Addr) (xn xc : Nat) (hx : r < (xn : Int)) :
    Calls Tryz.prog 6 #[.agg #[.int .i64 k, .int .i64 r, .int .i64 c, .int .i64 q, .slice lo n cl], .int .i64 o, .slice xo xn xc] w fun e w' => e = .returned (.bool true) /\ Below w.heap.size w w' := by
  have HO : Hid (∀ u, Below w.heap.size w u -> Calls Tryz.prog 22 #[.agg #[.int .i64 k, .int .i64 r, .int .i64 c, .int .i64 q, .slice lo n cl], .int .i64 o] u (AnsO u 0 A D M R V y l s SR SV)) := fun u hu => Object_any h u lo cl hcl A0 C0 (hl.below hu)
  have HA : Hid (∀ u, Calls Tryz.prog 20 #[] u fun e w' => e = .returned (.bool true) /\ Below u.heap.size u w') := fun u => awake_any u
  have HB : Hid (∀ u, Calls Tryz.prog 21 #[.agg #[.int .i64 k, .int .i64 r, .int .i64 c, .int .i64 q, .slice lo n cl]] u fun e w' => (∃ b, e = .returned (.bool b)) /\ Below u.heap.size u w') := fun u => big_any k r c q lo n cl u
  unfold AnsO at HO
  rw [lenE_zero, lenE_zero, lenE_zero, De.lenI_zero, De.lenI_zero, De.lenI_zero] at HO
  clear h hl
  obtain ⟨w0, hw0⟩ : ∃ w0, w0 = w.alloc (.cells #[.int .i64 k, .int .i64 r, .int .i64 c, .int .i64 q, .slice lo n cl] 51) := ⟨_, rfl⟩
  have b0 : Below w.heap.size w w0 := by rw [hw0]; exact below_alloc _ _
  have HQ : Hid (∀ u, Below w0.heap.size w0 u -> u.cell? ⟨w.heap.size, 0, none⟩ = some (.int .i64 k) /\ u.cell? ⟨w.heap.size, 1, none⟩ = some (.int .i64 r) /\ u.cell? ⟨w.heap.size, 2, none⟩ = some (.int .i64 c) /\ u.cell? ⟨w.heap.size, 3, none⟩ = some (.int .i64 q) /\ u.cell? ⟨w.heap.size, 4, none⟩ = some (.slice lo n cl)) := fun u hu => mea_held hw0 hu
  have HB0 : Hid (Below w.heap.size w w0) := b0
  go_enter Tryz.func6, Tryz.ntmps6
  go_wp2_with fail
  rw [<- hw0]
  clear hw0 b0
  refine (HA.out _).mono ?_
  rintro e wa ⟨rfl, ha⟩
  obtain ⟨s0, s1, s2, s3, s4⟩ := HQ.out wa ha
  go_wp2_with fail
  refine (HB.out _).mono ?_
  rintro e wb ⟨⟨b, rfl⟩, hb⟩
  have hab := below_then ha hb
  clear s0 s1 s2 s3 s4 ha hb
  obtain ⟨s0, s1, s2, s3, s4⟩ := HQ.out wb hab
  cases b
  · go_wp2_with fail
    refine (HO.out _ (below_then HB0.out hab)).mono ?_
    rintro e wc ⟨ao, cp, lo', lc, so, sc, rfl, _, _, _, hc⟩
    have hac := below_then hab hc
    clear s0 s1 s2 s3 s4 hab hc HO HA HB
    have s1 := fun o => (HQ.out (wc.alloc o) (below_then hac (below_alloc _ o))).2.1
    go_wp2_with fail
    go_ret
    exact ⟨rfl, below_then HB0.out (below_then hac (below_alloc _ _))⟩
  · go_wp2_with fail
    go_ret
    exact ⟨rfl, below_then HB0.out hab⟩
end Go.Proofs.YtmoenmpbkockoaaGreat
namespace Go.Proofs.YtmoenmpbkockoaaGreat
open Go.RowKit
theorem cnt_dl (L : Nat -> Nat) : ∀ n, Cod.cnt L n = (Cn.dl (fun i => decide (L i ≠ 0)) n).length
  | 0 => rfl
  | n + 1 => by
    have ih := cnt_dl L n
    rw [Cn.dl]
    by_cases h : L n = 0
    · rw [Cod.cnt_skip h, if_neg (by simp [h]), ih]
    · rw [Cod.cnt_take h, if_pos (by simp [h]), ih]; simp
theorem wins_first {k : Int} {P Q : Nat -> Int} {N : Nat} {v : Int} (hv : v ≠ 0) (hk1 : 1 <= k) (hk : k <= (Cn.ct P Q N v : Int)) (hno : ∀ u, v < u -> ¬ k <= (Cn.ct P Q N u : Int)) : (Cn.wins k P Q N).getD 0 0 = v /\ 0 < (Cn.wins k P Q N).length := by
  have hm : v ∈ Cn.wins k P Q N := by
    unfold Cn.wins
    refine List.mem_filter.2 ⟨Cn.mem_tv.2 ⟨hv, fun e => ?_⟩, decide_eq_true hk⟩
    unfold Cn.ct at hk; rw [e] at hk; simp at hk; omega
  have hf : (Cn.wins k P Q N).Pairwise (fun a b => b < a) := (Cn.tvL_fall P Q N).filter _
  have hin : ∀ u, u ∈ Cn.wins k P Q N -> k <= (Cn.ct P Q N u : Int) := fun u hu => of_decide_eq_true (List.mem_filter.1 hu).2
  cases h : Cn.wins k P Q N with
  | nil => rw [h] at hm; cases hm
  | cons a r =>
    rw [h] at hm hf hin
    refine ⟨?_, by simp⟩
    show a = v
    rcases List.mem_cons.1 hm with e | e
    · exact e.symm
    · exact absurd (hin a (by simp)) (hno a ((List.pairwise_cons.1 hf).1 v e))
theorem wins_top {k : Int} {P Q : Nat -> Int} {N : Nat} (hk1 : 1 <= k) (h : 0 < (Cn.wins k P Q N).length) {v : Int} (hv : (Cn.wins k P Q N).getD 0 0 = v) : v ≠ 0 /\ k <= (Cn.ct P Q N v : Int) /\ ∀ u, v < u -> u ≠ 0 -> ¬ k <= (Cn.ct P Q N u : Int) := by
  have hf : (Cn.wins k P Q N).Pairwise (fun a b => b < a) := (Cn.tvL_fall P Q N).filter _
  have hin : ∀ u, u ∈ Cn.wins k P Q N -> u ≠ 0 /\ k <= (Cn.ct P Q N u : Int) := fun u hu => ⟨(Cn.mem_tv.1 (List.mem_filter.1 hu).1).1, of_decide_eq_true (List.mem_filter.1 hu).2⟩
  have hall : ∀ u, u ≠ 0 -> k <= (Cn.ct P Q N u : Int) -> u ∈ Cn.wins k P Q N := fun u hu hk => by
    unfold Cn.wins
    refine List.mem_filter.2 ⟨Cn.mem_tv.2 ⟨hu, fun e => ?_⟩, decide_eq_true hk⟩
    unfold Cn.ct at hk; rw [e] at hk; simp at hk; omega
  cases e : Cn.wins k P Q N with
  | nil => rw [e] at h; simp at h
  | cons a r =>
    rw [e] at hf hin hv hall
    obtain rfl : a = v := hv
    obtain ⟨h1, h2⟩ := hin a (by simp)
    refine ⟨h1, h2, fun u hu h0 hk => ?_⟩
    rcases List.mem_cons.1 (hall u h0 hk) with g | g
    · omega
    · have := (List.pairwise_cons.1 hf).1 u g; omega
theorem ct_of {N : Nat} {z : Nat -> Sl} {P : Nat -> Bool} (h : ∀ i, i < N -> ((z i).ce = 0 ↔ P i = false)) : ct z N = Cod.cnt (fun i => if P i = true then 1 else 0) N := by
  have := Cod.cnt_congr (L := lz z) (L' := fun i => if P i = true then 1 else 0) (n := N) (fun i hi => by
    have hh := h i hi
    unfold lz
    by_cases e : (z i).ce = 0
    · rw [if_pos e]; simp only [hh.1 e]; simp
    · rw [if_neg e]
      have : P i = true := by cases q : P i; exact absurd (hh.2 q) e; rfl
      simp only [this]; simp)
  unfold ct Cod.cnt; rw [this]
theorem erL_ct {N K : Nat} {c : Int} {z : Nat -> Sl} (h : Zok N c z) (hc : 8 <= c) : erL K z N = if K <= ct z N then 0 else 5 := by unfold erL; rw [(cnt_ct h hc).1]
theorem rd_there {N K : Nat} {c : Int} {z : Nat -> Sl} {P : Nat -> Bool} (hz : Zok N c z) (hc : 8 <= c) (h : ∀ i, i < N -> ((z i).ce ≠ 0 ↔ P i = true)) (hk : K <= (Cn.dl P N).length) : erL K z N = 0 := by
  have hp : ∀ i, i < N -> ((z i).ce = 0 ↔ P i = false) := fun i hi => by
    have hh := h i hi
    constructor
    · intro e
      cases q : P i
      · rfl
      · exact absurd e (hh.2 q)
    · intro e
      rw [e] at hh
      exact Classical.byContradiction fun q => absurd (hh.1 q) (by decide)
  rw [erL_ct hz hc, ct_of (P := P) hp, cnt_dl, Cn.dl_congr (q := P) (fun i _ => by cases P i <;> rfl), if_pos hk]
theorem yy_congr {N : Nat} {c : Int} {L L' : Nat -> Nat} {F F' : Nat -> Nat -> UInt8} {j : Nat} (h1 : L' j = L j) (h2 : F' j = F j) : yy N c L' F' j = yy N c L F j := by unfold yy; rw [h1, h2]
theorem erK_ok {N : Nat} {c : Int} {L : Nat -> Nat} {kd : UInt8} {v : Int} (hL : ∀ j, j < 2 * N -> L j = 0 \/ L j = sz N c) (hk : kd = 1 \/ kd = 2) (hv : 1 <= v /\ v <= 1073741824) : erK 0 N c N L kd v = 0 := by
  have h1 : erR 0 N c N L = 0 := by unfold erR; rw [if_pos rfl, if_pos ⟨rfl, hL⟩]
  unfold erK; rw [if_pos h1, if_pos ⟨hk, hv⟩]
end Go.Proofs.YtmoenmpbkockoaaGreat
namespace Go.Proofs.YtmoenmpbkockoaaGreat.Cod
open Go.RowKit
def str (n : Nat) (f : Nat -> K) : ByteArray := strOfNums ((List.range n).map fun i => ((f i).n : Int))
theorem str_congr {n : Nat} {f h : Nat -> K} (e : ∀ i, i < n -> f i = h i) : str n f = str n h := by
  unfold str
  congr 1
  apply List.map_congr_left
  intro i hi
  rw [e i (List.mem_range.1 hi)]
theorem conv_any {w : World} {ao : Option Addr} {n : Nat} {f : Nat -> K} (h : Rd w ao n f) (cp : Nat) : (convert 75 9 (.slice ao n cp)).run Tryz.prog w = .ok (.string (str n f)) w := by
  by_cases hn : 0 < n
  · obtain ⟨b, off, rfl, hc⟩ := h hn
    exact run_convert_bytes_arg w 75 5 Tryz.underlying75 Tryz.underlying5 b off n cp _ (by simp) (fun i hi => by rw [hc i hi]; simp [hi]) 9 Tryz.underlying9
  · obtain rfl : n = 0 := by omega
    cases ao with
    | none => exact run_convert_bytes_nil w 75 5 Tryz.underlying75 Tryz.underlying5 0 cp 9 Tryz.underlying9
    | some a =>
      rw [run_convert_bytes_string w 75 9 5 _ 0 cp Tryz.underlying75 Tryz.underlying5 Tryz.underlying9, run_bytesToString w a 0 cp [] (by simp [loadCells, loadCellsFrom])]
      rfl
theorem str_inj {n : Nat} {f h : Nat -> K} (e : str n f = str n h) (i : Nat) (hi : i < n) : f i = h i := by
  have e1 : (str n f).data.toList[i]? = (str n h).data.toList[i]? := by rw [e]
  unfold str at e1
  rw [strOfNums_data, strOfNums_data] at e1
  simp [hi] at e1
  have h1 := (f i).lt
  have h2 := (h i).lt
  have e2 := congrArg UInt8.toNat e1
  simp at e2
  exact K.ext (by omega)
def eqB (n : Nat) (f h : Nat -> K) : Bool := (str n f).toList == (str n h).toList
theorem eqB_true {n : Nat} {f h : Nat -> K} : eqB n f h = true ↔ ∀ i, i < n -> f i = h i := by
  unfold eqB
  rw [beq_iff_eq]
  rw [ByteArray.toList_eq, ByteArray.toList_eq]
  exact ⟨fun e => str_inj (Go.WideShapes.bytes_inj e), fun e => by rw [str_congr e]⟩
theorem equal_any (w : World) (ao bo : Option Addr) (n ca cb : Nat) (f h : Nat -> K) (ha : Rd w ao n f) (hb : Rd w bo n h) :
    Calls Tryz.prog 114 #[.slice ao n ca, .slice bo n cb] w fun e w' => e = .returned (.bool (eqB n f h)) /\ w' = w := by
  have v1 := conv_any ha ca
  have v2 := conv_any hb cb
  unfold eqB
  clear ha hb
  go_enter Tryz.func114, Tryz.ntmps114
  go_wp2
  go_ret
  exact ⟨rfl, rfl⟩
def eqAll (ll n : Nat) (H H' : M) : Bool := decide (∀ i, i < ll -> eqB n (H i) (H' i) = true)
set_option maxHeartbeats 1000000 in
set_option maxRecDepth 100000 in
theorem eqfunc_any (w : World) (ao bo : Option Addr) (ll ca cb n : Nat) (A B : Nat -> Option Addr) (C D L L' : Nat -> Nat) (H H' : M) (hll : ll <= 1000000) (ha : Lst w ao ll A C L H) (hb : Lst w bo ll B D L' H') (hL : ∀ i, i < ll -> L i = n) (hL' : ∀ i, i < ll -> L' i = n) :
    Calls Tryz.prog 112 #[.slice ao ll ca, .slice bo ll cb, .func (.func 114) #[] #[]] w fun e w' => e = .returned (.bool (eqAll ll n H H')) /\ w' = w := by
  have HA : Hid (Lst w ao ll A C L H) := ha
  have HB : Hid (Lst w bo ll B D L' H') := hb
  have HL : Hid (∀ i, i < ll -> L i = n) := hL
  have HL' : Hid (∀ i, i < ll -> L' i = n) := hL'
  clear ha hb hL hL'
  have hbq : ((ll : Int) != (ll : Int)) = false := by simp
  by_cases hall : ∀ i, i < ll -> eqB n (H i) (H' i) = true
  · rw [show eqAll ll n H H' = true from decide_eq_true hall]
    have HALL : Hid (∀ i, i < ll -> eqB n (H i) (H' i) = true) := hall
    clear hall
    go_enter Tryz.func112, Tryz.ntmps112
    go_wp2
    go_loop [17] (fun x => ∃ i : Nat, i <= ll /\ x = .int .i64 i) (fun x => ll - (intOf x).toNat)
    case atStart => exact ⟨0, Nat.zero_le _, rfl⟩
    case round =>
      obtain ⟨i, hi, rfl⟩ := hrel
      by_cases hlt : i < ll
      · obtain ⟨b, off, rfl, hca⟩ := HA.out.at_ (by omega)
        obtain ⟨b', off', rfl, hcb⟩ := HB.out.at_ (by omega)
        have c1 := hca i hlt
        have c2 := hcb i hlt
        rw [HL.out i hlt] at c1
        rw [HL'.out i hlt] at c2
        have r1 := HA.out.rd i hlt
        have r2 := HB.out.rd i hlt
        rw [HL.out i hlt] at r1
        rw [HL'.out i hlt] at r2
        have HE := equal_any w (A i) (B i) n (C i) (D i) (H i) (H' i) r1 r2
        rw [HALL.out i hlt] at HE
        clear hca hcb r1 r2
        have i1 : (0 : Int) <= (i : Int) := by omega
        have i2 : (i : Int) < (ll : Int) := by omega
        go_wp2_with (go_at_call 114; refine HE.mono ?_; rintro e w' ⟨rfl, rfl⟩)
        go_round
        case rel => exact ⟨i + 1, by omega, by go_num⟩
        case measure => simp [intOf]; omega
      · go_wp2
        go_ret
        exact ⟨rfl, rfl⟩
  · rw [show eqAll ll n H H' = false from decide_eq_false hall]
    obtain ⟨q, hq, hne, heq⟩ := first_not hall
    have HEQ : Hid (∀ i, i < q -> eqB n (H i) (H' i) = true) := heq
    have HNE : Hid (eqB n (H q) (H' q) = false) := by show _ = _; simpa using hne
    clear hall hne heq
    go_enter Tryz.func112, Tryz.ntmps112
    go_wp2
    go_loop [17] (fun x => ∃ i : Nat, i <= q /\ x = .int .i64 i) (fun x => ll - (intOf x).toNat)
    case atStart => exact ⟨0, Nat.zero_le _, rfl⟩
    case round =>
      obtain ⟨i, hi, rfl⟩ := hrel
      have hlt : i < ll := by omega
      obtain ⟨b, off, rfl, hca⟩ := HA.out.at_ (by omega)
      obtain ⟨b', off', rfl, hcb⟩ := HB.out.at_ (by omega)
      have c1 := hca i hlt
      have c2 := hcb i hlt
      rw [HL.out i hlt] at c1
      rw [HL'.out i hlt] at c2
      have r1 := HA.out.rd i hlt
      have r2 := HB.out.rd i hlt
      rw [HL.out i hlt] at r1
      rw [HL'.out i hlt] at r2
      have HE := equal_any w (A i) (B i) n (C i) (D i) (H i) (H' i) r1 r2
      clear hca hcb r1 r2
      have i1 : (0 : Int) <= (i : Int) := by omega
      have i2 : (i : Int) < (ll : Int) := by omega
      by_cases hiq : i < q
      · rw [HEQ.out i hiq] at HE
        go_wp2_with (go_at_call 114; refine HE.mono ?_; rintro e w' ⟨rfl, rfl⟩)
        go_round
        case rel => exact ⟨i + 1, by omega, by go_num⟩
        case measure => simp [intOf]; omega
      · obtain rfl : i = q := by omega
        rw [HNE.out] at HE
        go_wp2_with (go_at_call 114; refine HE.mono ?_; rintro e w' ⟨rfl, rfl⟩)
        go_ret
        exact ⟨rfl, rfl⟩
def okVer (ll : Nat) (L : Nat -> Nat) (k r : Int) : Bool := mayB k r && (okC ll L (k + r) && decide (k + r <= (cnt L ll : Int)))
def verB (k r m : Nat) (H : M) : Bool := eqAll r m (par k H) (fun i => H (k + i))
def Told2 (w : World) (v : Bool) (err : Int) (e : Ending) (w' : World) : Prop := e = .returned (.tuple #[.bool v, .int .i64 err]) /\ Below w.heap.size w w'
set_option maxHeartbeats 600000 in
set_option maxRecDepth 100000 in
theorem Verify_any (w : World) (k r : Int) (lo : Option Addr) (ll cl : Nat) (A : Nat -> Option Addr) (C L : Nat -> Nat) (H : M) (hl : Lst w lo ll A C L H) (hcl : ll <= cl) :
    Calls Tryz.prog 55 #[.int .i64 k, .int .i64 r, .slice lo ll cl] w (Told2 w (okVer ll L k r && verB k.toNat r.toNat (len0 L ll) H) (errE (mayB k r) (okVer ll L k r))) := by
  have HM := may_any w k r
  cases hmay : mayB k r
  · rw [show okVer ll L k r = false by unfold okVer; rw [hmay]; rfl]
    rw [hmay] at HM
    clear hmay
    go_enter Tryz.func55, Tryz.ntmps55
    go_wp2_with (go_at_call 110; refine HM.mono ?_; rintro e w' ⟨rfl, rfl⟩)
    go_ret2
    exact ⟨rfl, Below.refl _ _⟩
  · obtain ⟨h1, h2, h3, h4⟩ := mayB_true hmay
    rw [hmay] at HM
    have HT := there_any w lo ll cl A C L H (k + r) (by omega) hl
    cases hoc : okC ll L (k + r)
    · have HOK : Hid (okVer ll L k r = false) := by show _ = _; unfold okVer; rw [hoc, Bool.false_and, Bool.and_false]
      unfold There at HT
      rw [hoc] at HT
      have e1 : errB false 40 = 40 := rfl
      clear hmay hoc hl
      go_enter Tryz.func55, Tryz.ntmps55
      go_wp2_with (first | (go_at_call 110; refine HM.mono ?_; rintro e w' ⟨rfl, rfl⟩) | (go_at_call 111; refine HT.mono ?_; rintro e w1 ⟨ao, cap, rfl, _, _, _, hb⟩))
      go_ret2
      rw [HOK.out]
      exact ⟨rfl, hb⟩
    · obtain ⟨hll, hokT⟩ := okC_true hoc
      obtain ⟨k, rfl⟩ := Int.eq_ofNat_of_zero_le (show 0 <= k by omega)
      obtain ⟨r, rfl⟩ := Int.eq_ofNat_of_zero_le h3
      obtain rfl : ll = k + r := by omega
      clear hll
      rw [Int.toNat_natCast, Int.toNat_natCast]
      unfold There at HT
      rw [hoc] at HT
      have e1 : errB true 40 = 0 := rfl
      have e2 : lenB true (cnt L (k + r)) = cnt L (k + r) := rfl
      obtain ⟨cn, hcn⟩ : ∃ cn, cn = cnt L (k + r) := ⟨_, rfl⟩
      rw [<- hcn] at HT e2
      by_cases hck : cn < k + r
      · have HOK : Hid (okVer (k + r) L k r = false) := by show _ = _; unfold okVer; rw [show decide ((k : Int) + (r : Int) <= (cnt L (k + r) : Int)) = false from decide_eq_false (by omega), Bool.and_false, Bool.and_false]
        have hci : (cn : Int) < (k : Int) + (r : Int) := by omega
        clear hmay hoc hl hokT hcn
        go_enter Tryz.func55, Tryz.ntmps55
        go_wp2_with (first | (go_at_call 110; refine HM.mono ?_; rintro e w' ⟨rfl, rfl⟩) | (go_at_call 111; refine HT.mono ?_; rintro e w1 ⟨ao, cap, rfl, _, _, _, hb⟩))
        go_ret2
        rw [HOK.out]
        exact ⟨rfl, hb⟩
      · have HOK : Hid (okVer (k + r) L k r = true) := by show _ = _; unfold okVer; rw [hmay, hoc, show decide ((k : Int) + (r : Int) <= (cnt L (k + r) : Int)) = true from decide_eq_true (by omega)]; rfl
        obtain ⟨m1, m2, m3⟩ := alike_of hokT (by omega)
        obtain ⟨m, hm⟩ : ∃ m, m = len0 L (k + r) := ⟨_, rfl⟩
        rw [<- hm] at m1 m2 m3 ⊢
        have HLm : Hid (∀ i, i < k + r -> L i = m) := fun i hi => by
          rcases m3 i hi with g | g
          · exact absurd g (all_there (by omega) i hi)
          · exact g
        have hmm := @run_makeMap Tryz.prog
        have HL : Hid (Lst w lo (k + r) A C L H) := hl
        obtain ⟨bl, ol, rfl, _⟩ := hl.at_ (by omega)
        have i1 : (k : Int) <= (cl : Int) := by omega
        have i2 : (k : Int) <= (k : Int) + (r : Int) := by omega
        have i3 : (k : Int) + (r : Int) <= (cl : Int) := by omega
        have hci : ¬ ((cn : Int) < (k : Int) + (r : Int)) := by omega
        clear hmay hoc hl hokT m3 hcn hm
        go_enter Tryz.func55, Tryz.ntmps55
        go_wp2_with (first
          | (go_at_call 110; refine HM.mono ?_; rintro e w' ⟨rfl, rfl⟩)
          | (go_at_call 111; refine HT.mono ?_; rintro e w1 ⟨ao, cap, rfl, _, _, _, hb⟩))
        have b0 : Below w1.drew.heap.size w1.drew (w1.drew.alloc (.map #[] 0)) := (Below.refl _ _).alloc (Nat.le_refl _) _
        have HP := parity_any (w1.drew.alloc (.map #[] 0)) w1.drew.heap.size w1.drew.heap.size k r 0 m (some ⟨bl, ol, none⟩) cl A C L H (by omega) (by omega) (by omega) m1 m2 (by omega) (by simp) (Kept.made w1.drew k r) (((HL.out.below hb).below (below_drew _ w1)).below b0).upto (fun i hi => HLm.out i (by omega))
        by_cases hcap : cl = k
        · have HR0 : Hid (r = 0) := by show _ = _; omega
          have HZ : Hid (∀ w2, Lst w2 (some ⟨bl, ol, none⟩) r (fun _ => none) (fun _ => 0) (fun _ => m) (fun i => H (k + i))) := fun w2 => ⟨fun i hi => absurd hi (by have := HR0.out; omega), fun hp => absurd hp (by have := HR0.out; omega)⟩
          subst hcap
          go_region_held3 (fun _ => True) (trivial) (first
            | (go_at_call 113; refine HP.mono ?_; rintro e w2 ⟨ao2, cap2, T, U, rfl, hcop, hk2, hke⟩
               have bw2 : Below w1.drew.heap.size w1.drew w2 := below_map hke
               have HE : Calls Tryz.prog 112 #[.slice ao2 r cap2, .slice (some ⟨bl, ol, none⟩) 0 0, .func (.func 114) #[] #[]] w2 fun e w' => e = .returned (.bool (eqAll r m (par cl H) fun i => H (cl + i))) /\ w' = w2 := (by have h0 := HR0.out; have hz := HZ.out w2; have hc := hcop.lst; rw [h0] at hz hc ⊢; exact eqfunc_any w2 ao2 (some ⟨bl, ol, none⟩) 0 cap2 0 m T (fun _ => none) U (fun _ => 0) (fun _ => m) (fun _ => m) (par cl H) (fun i => H (cl + i)) (by omega) hc hz (fun _ _ => rfl) (fun _ _ => rfl)))
            | (go_at_call 112; refine HE.mono ?_; rintro e w3 ⟨rfl, hw3⟩; obtain rfl := hw3.symm))
          go_wp2
          go_ret2
          rw [HOK.out]
          exact ⟨rfl, below_step hb (below_step (below_drew _ w1) bw2 (Nat.le_refl _)) hb.size⟩
        · have hkc : ¬ k = cl := fun e => hcap e.symm
          go_region_held3 (fun _ => True) (trivial) (first
            | (go_at_call 113; refine HP.mono ?_; rintro e w2 ⟨ao2, cap2, T, U, rfl, hcop, hk2, hke⟩
               have bw2 : Below w1.drew.heap.size w1.drew w2 := below_map hke
               have HE := eqfunc_any w2 ao2 (some ⟨bl, ol + k, none⟩) r cap2 (cl - k) m T _ U _ (fun _ => m) _ (par k H) _ (by omega) hcop.lst (((HL.out.below hb).below (below_drew _ w1)).below bw2).from (fun _ _ => rfl) (fun i hi => HLm.out (k + i) (by omega)))
            | (go_at_call 112; refine HE.mono ?_; rintro e w3 ⟨rfl, hw3⟩; obtain rfl := hw3.symm))
          go_wp2
          go_ret2
          rw [HOK.out]
          exact ⟨rfl, below_step hb (below_step (below_drew _ w1) bw2 (Nat.le_refl _)) hb.size⟩
end Go.Proofs.YtmoenmpbkockoaaGreat.Cod
namespace Go.Proofs.YtmoenmpbkockoaaGreat
open Go.RowKit
structure Wd (N : Nat) (c : Int) (P : Nat -> Bool) (Y Y' : Nat -> Sl) : Prop where
  stay : ∀ j, j < 2 * N -> P (j / 2) = true -> Y' j = Y j
  gone : ∀ j, j < 2 * N -> P (j / 2) = false -> Y' j = zSl
  okY : OkY N c Y
  okY' : OkY N c Y'
def tD (Y : Nat -> Sl) (kd : UInt8) (v : Int) (i : Nat) : Bool := tB (Y (2 * i)) kd v || tB (Y (2 * i + 1)) kd v
structure Snd (K R N : Nat) (c : Int) (Y : Nat -> Sl) (kd : UInt8) (v : Int) (t : Sl) : Prop where
  tl : tS Y kd v (2 * N) = t
  ne : t.ce ≠ 0
  one : ∀ j, j < 2 * N -> (Y j).kd = kd -> (Y j).st = v -> ∀ l, l < N -> (Y j).V l = t.V l
  all : ∀ i, i < N -> (zz Y kd t i).ce ≠ 0
  ver : Cod.verB K R c.toNat (fun i b => toK ((zz Y kd t i).D b)) = true
theorem not_is {N : Nat} {c : Int} {i : Nat} (h : Is N c zSl i) : False := (ok_of h.1).ne rfl
theorem wi_told {K R N : Nat} {c : Int} {P : Nat -> Bool} {Y Y' : Nat -> Sl} {kd : UInt8} {v : Int} {t : Sl} (hk : kd = 1 \/ kd = 2) (hw : Wd N c P Y Y') (hs : Snd K R N c Y kd v t) (hm : R < (Cn.dl (tD Y kd v) N).length) (hg : (Cn.dl (fun i => !P i) N).length <= R) :
    (tS Y' kd v (2 * N)).ce ≠ 0 /\ ∀ l, l < N -> (tS Y' kd v (2 * N)).V l = t.V l := by
  have hex : ∃ i, i < N /\ P i = true /\ tD Y kd v i = true := Classical.byContradiction fun hno => by
    have := Cn.dl_sub (p := tD Y kd v) (q := fun i => !P i) (n := N) fun i hi ht => by
      cases e : P i
      · rfl
      · exact absurd ⟨i, hi, e, ht⟩ hno
    omega
  obtain ⟨i, hi, hPi, hti⟩ := hex
  have hj : ∃ j, j < 2 * N /\ tB (Y' j) kd v = true := by
    unfold tD at hti
    rcases Bool.or_eq_true_iff.1 hti with e | e
    · exact ⟨2 * i, by omega, by rw [hw.stay _ (by omega) (by rw [show 2 * i / 2 = i by omega]; exact hPi)]; exact e⟩
    · exact ⟨2 * i + 1, by omega, by rw [hw.stay _ (by omega) (by rw [show (2 * i + 1) / 2 = i by omega]; exact hPi)]; exact e⟩
  obtain ⟨j0, hj0, ht0⟩ := hj
  rcases tS_is (v := v) hk hw.okY' (2 * N) (Nat.le_refl _) with ⟨_, h⟩ | ⟨j, hj, he, htj, hIs, _⟩
  · rw [h j0 hj0] at ht0; cases ht0
  · rw [he]
    refine ⟨(ok_of hIs.1).ne, fun l hl => ?_⟩
    cases e : P (j / 2)
    · rw [hw.gone j hj e] at hIs; exact absurd hIs not_is
    · rw [hw.stay j hj e] at htj ⊢
      have h2 : (Y j).kd = kd /\ (Y j).st = v := of_decide_eq_true htj
      exact hs.one j hj h2.1 h2.2 l hl
theorem wi_zz {K R N : Nat} {c : Int} {P : Nat -> Bool} {Y Y' : Nat -> Sl} {kd : UInt8} {v : Int} {t t' : Sl} (hw : Wd N c P Y Y') (hs : Snd K R N c Y kd v t) (h0 : t'.ce ≠ 0) (hV : ∀ l, l < N -> t'.V l = t.V l) {i : Nat} (hi : i < N) :
    (P i = true -> zz Y' kd t' i = zz Y kd t i) /\ (P i = false -> zz Y' kd t' i = zSl) := by
  unfold zz
  rw [if_neg h0, if_neg hs.ne, hV i hi]
  constructor
  · intro e
    rw [hw.stay _ (by omega) (by rw [show 2 * i / 2 = i by omega]; exact e), hw.stay _ (by omega) (by rw [show (2 * i + 1) / 2 = i by omega]; exact e)]
  · intro e
    rw [hw.gone _ (by omega) (by rw [show 2 * i / 2 = i by omega]; exact e), hw.gone _ (by omega) (by rw [show (2 * i + 1) / 2 = i by omega]; exact e)]
    unfold fZ
    rw [hB_z, if_neg Bool.false_ne_true, if_neg Bool.false_ne_true]
theorem wi_data {N K R m : Nat} {z z' : Nat -> Sl} (hK : K <= 12) (hKR : K + R = N) (hN : N <= 16) (hm0 : 0 < m) (hv : Cod.verB K R m (fun i b => toK ((z i).D b)) = true) (hz : ∀ i, i < N -> Lz z' i ≠ 0 -> z' i = z i) (hE : erL K z' N = 0) (b : Nat) (hb : b < K * m) : cat2 m (cH K z' N) b = (z (b / m)).D (b % m) := by
  have hk : K <= Cod.cnt (Lz z') N := by
    unfold erL at hE
    by_cases g : K <= Cod.cnt (Lz z') N
    · exact g
    · rw [if_neg g] at hE; exact absurd hE (by decide)
  have hi : b / m < K := Nat.div_lt_of_lt_mul (by rw [Nat.mul_comm]; exact hb)
  have hbm : b % m < m := Nat.mod_lt _ hm0
  have hS := Cod.sel_is (Lz z') N
  have henc : ∀ i, i < N -> Cod.enc K (fun i b => toK ((z i).D b)) i (b % m) = toK ((z i).D (b % m)) := fun i hiN => by
    by_cases hik : i < K
    · rw [Cod.enc_data _ hik]
    · obtain ⟨t, rfl⟩ : ∃ t, i = K + t := ⟨i - K, by omega⟩
      unfold Cod.verB Cod.eqAll at hv
      have h4 := Cod.eqB_true.1 (of_decide_eq_true hv t (by omega)) (b % m) hbm
      exact h4
  unfold cat2 cH
  rw [Cod.enc_data _ hi]
  unfold cD
  rw [Cod.dec_enc (n := N) (Hz z') (fun i b => toK ((z i).D b)) hK hN (fun t ht => hS.lt t (by omega)) (fun t t' h1 h2 => hS.rise t t' h1 (by omega)) (b % m) (fun t ht => ?_) (b / m) hi]
  · rw [bK_toK]
  · have hl := hS.lt t (by omega)
    have hne := hS.there t (by omega)
    unfold Hz
    rw [hz _ hl hne, henc _ hl]
theorem wi_read {N K R : Nat} {c : Int} {P : Nat -> Bool} {L L' : Nat -> Nat} {F F' : Nat -> Nat -> UInt8} {kd : UInt8} {v : Int} {t : Sl} (hk : kd = 1 \/ kd = 2) (hK : K <= 12) (hKR : K + R = N) (hN : N <= 16) (hc : 8 <= c) (hw : Wd N c P (yy N c L F) (yy N c L' F')) (hs : Snd K R N c (yy N c L F) kd v t) (hm : R < (Cn.dl (tD (yy N c L F) kd v) N).length) (hg : (Cn.dl (fun i => !P i) N).length <= R) :
    erL K (zv N c L F kd v) N = 0 /\ erL K (zv N c L' F' kd v) N = 0 /\ ∀ b, b < K * c.toNat -> cat2 c.toNat (cH K (zv N c L' F' kd v) N) b = cat2 c.toNat (cH K (zv N c L F kd v) N) b := by
  obtain ⟨h0, hV⟩ := wi_told hk hw hs hm hg
  have hz : ∀ i, i < N -> (P i = true -> zv N c L' F' kd v i = zv N c L F kd v i) /\ (P i = false -> zv N c L' F' kd v i = zSl) := fun i hi => by
    have h := wi_zz hw hs h0 hV hi
    rw [<- hs.tl] at h
    exact h
  have hall : ∀ i, i < N -> (zv N c L F kd v i).ce ≠ 0 := fun i hi => by
    have h := hs.all i hi
    rw [<- hs.tl] at h
    exact h
  have hver : Cod.verB K R c.toNat (fun i b => toK ((zv N c L F kd v i).D b)) = true := by
    have h := hs.ver
    rw [<- hs.tl] at h
    exact h
  have hboth := Cn.dl_both P N
  have hE' : erL K (zv N c L' F' kd v) N = 0 := rd_there (P := P) zok_of hc (fun i hi => by
    cases e : P i
    · rw [(hz i hi).2 e]; exact ⟨fun h => absurd rfl h, fun h => by cases h⟩
    · rw [(hz i hi).1 e]; exact ⟨fun _ => rfl, fun _ => hall i hi⟩) (by omega)
  have hE : erL K (zv N c L F kd v) N = 0 := rd_there (P := fun _ => true) zok_of hc (fun i hi => ⟨fun _ => rfl, fun _ => hall i hi⟩) (by
    have h1 := Cn.dl_both (fun _ => true) N
    have h2 := Cn.dl_empty (p := fun _ : Nat => !true) (n := N) (fun _ _ => rfl)
    rw [h2] at h1
    simp at h1
    omega)
  refine ⟨hE, hE', fun b hb => ?_⟩
  rw [wi_data hK hKR hN (by omega) hver (fun i hi hne => by
    cases e : P i
    · rw [show Lz (zv N c L' F' kd v) i = 0 by unfold Lz; rw [(hz i hi).2 e]; rfl] at hne; exact absurd rfl hne
    · exact (hz i hi).1 e) hE' b hb, wi_data hK hKR hN (by omega) hver (fun _ _ _ => rfl) hE b hb]
end Go.Proofs.YtmoenmpbkockoaaGreat
namespace Go.Proofs.YtmoenmpbkockoaaGreat
open Go.RowKit
theorem hP_yy (N : Nat) (c : Int) (L : Nat -> Nat) (F : Nat -> Nat -> UInt8) (i : Nat) : Cn.hP N c L F i = Cn.ev (ofK 2 (yy N c L F (2 * i))) /\ Cn.hR N c L F i = Cn.ev (ofK 2 (yy N c L F (2 * i + 1))) := by
  unfold Cn.hP Cn.hR Cn.hs yy
  rw [show 2 * i / 2 = i by omega, show (2 * i + 1) / 2 = i by omega]
  exact ⟨rfl, rfl⟩
theorem wi_hbv {N : Nat} {c : Int} {P : Nat -> Bool} {L L' : Nat -> Nat} {F F' : Nat -> Nat -> UInt8} (hw : Wd N c P (yy N c L F) (yy N c L' F')) {u : Int} (hu : u ≠ 0) {i : Nat} (hi : i < N) :
    Cn.hbv (Cn.hP N c L' F') (Cn.hQ N c L' F') u i = (P i && Cn.hbv (Cn.hP N c L F) (Cn.hQ N c L F) u i) := by
  have key : ∀ (L : Nat -> Nat) (F : Nat -> Nat -> UInt8), Cn.hbv (Cn.hP N c L F) (Cn.hQ N c L F) u i = decide (Cn.ev (ofK 2 (yy N c L F (2 * i))) = u \/ Cn.ev (ofK 2 (yy N c L F (2 * i + 1))) = u) := fun L F => by
    unfold Cn.hbv
    apply decide_eq_decide.2
    rw [Cn.hQ_or N c L F i hu, (hP_yy N c L F i).1, (hP_yy N c L F i).2]
  rw [key, key]
  cases e : P i
  · rw [hw.gone _ (by omega) (by rw [show 2 * i / 2 = i by omega]; exact e), hw.gone _ (by omega) (by rw [show (2 * i + 1) / 2 = i by omega]; exact e), ofK_z, Cn.ev_z]
    exact decide_eq_false fun h => by rcases h with h | h <;> exact hu h.symm
  · rw [hw.stay _ (by omega) (by rw [show 2 * i / 2 = i by omega]; exact e), hw.stay _ (by omega) (by rw [show (2 * i + 1) / 2 = i by omega]; exact e)]
    rfl
theorem wi_win {N K R : Nat} {c : Int} {P : Nat -> Bool} {L L' : Nat -> Nat} {F F' : Nat -> Nat -> UInt8} (hK1 : 1 <= K) (hKR : K + R = N) (hw : Wd N c P (yy N c L F) (yy N c L' F')) (hg : (Cn.dl (fun i => !P i) N).length <= R) (hB : wnB (K : Int) N c L F = true)
    (hall : ∀ i, i < N -> Cn.hbv (Cn.hP N c L F) (Cn.hQ N c L F) (wnV (K : Int) N c L F) i = true) : wnV (K : Int) N c L' F' = wnV (K : Int) N c L F /\ wnB (K : Int) N c L' F' = true := by
  have h0 : 0 < (Cn.wins (K : Int) (Cn.hP N c L F) (Cn.hQ N c L F) N).length := of_decide_eq_true hB
  obtain ⟨hv0, _, htop⟩ := wins_top (by omega) h0 (v := wnV (K : Int) N c L F) rfl
  have hboth := Cn.dl_both P N
  obtain ⟨h1, h2⟩ := wins_first (k := (K : Int)) (P := Cn.hP N c L' F') (Q := Cn.hQ N c L' F') (N := N) hv0 (by omega) (by
    have h3 : (Cn.dl P N).length <= Cn.ct (Cn.hP N c L' F') (Cn.hQ N c L' F') N (wnV (K : Int) N c L F) := by
      unfold Cn.ct Cn.dv
      exact Cn.dl_sub fun i hi e => by rw [wi_hbv hw hv0 hi, e, hall i hi]; rfl
    omega) (fun u hu => by
    by_cases hu0 : u = 0
    · subst hu0
      have hv1 : 0 <= wnV (K : Int) N c L F := by
        have h4 := (Cn.hP_bd N c L F)
        have h5 := (Cn.hQ_bd N c L F)
        have h6 := hall 0 (by omega)
        have h7 : Cn.hP N c L F 0 = wnV (K : Int) N c L F \/ Cn.hQ N c L F 0 = wnV (K : Int) N c L F := of_decide_eq_true h6
        rcases h7 with e | e
        · rw [<- e]; exact (h4 0).1
        · rw [<- e]; exact (h5 0).1
      omega
    · have h8 : Cn.ct (Cn.hP N c L' F') (Cn.hQ N c L' F') N u <= Cn.ct (Cn.hP N c L F) (Cn.hQ N c L F) N u := by
        unfold Cn.ct Cn.dv
        exact Cn.dl_sub fun i hi e => by
          rw [wi_hbv hw hu0 hi] at e
          exact (Bool.and_eq_true_iff.1 e).2
      have h9 := htop u hu hu0
      omega)
  exact ⟨h1, decide_eq_true h2⟩
theorem isD_same {W : Nat} {q : Int} {F G : Nat -> UInt8} (hW : 32 <= W) (h : De.isD W q F = true) (hs : ∀ b, b < W -> G b = F b) :
    De.isD W q G = true /\ nm G 0 4 = nm F 0 4 /\ nm G 4 1 = nm F 4 1 /\ nm G 5 2 = nm F 5 2 /\ ∀ i, i < nm F 5 2 -> De.rdR G 7 i = De.rdR F 7 i /\ De.rdV G 7 i = De.rdV F 7 i := by
  obtain ⟨h1, h2⟩ := De.isD_true h
  have hM := (De.okD_few hW h1).1
  have hroom := De.dir_room hW
  have e1 : nm G 0 4 = nm F 0 4 := nm_congr fun i hi => hs _ (by omega)
  have e2 : nm G 4 1 = nm F 4 1 := nm_congr fun i hi => hs _ (by omega)
  have e3 : nm G 5 2 = nm F 5 2 := nm_congr fun i hi => hs _ (by omega)
  have e4 : ∀ i, i < nm F 5 2 -> De.rdR G 7 i = De.rdR F 7 i /\ De.rdV G 7 i = De.rdV F 7 i := fun i hi => by
    have hb : 7 + 6 * i + 6 <= W := by have : 6 * (i + 1) <= 6 * dir W := Nat.mul_le_mul_left 6 (by omega); omega
    unfold De.rdR De.rdV
    rw [nm_congr (F := G) (G := F) (o := 7 + 6 * i) (p := 7 + 6 * i) (k := 2) fun t ht => hs _ (by omega), nm_congr (F := G) (G := F) (o := 7 + 6 * i + 2) (p := 7 + 6 * i + 2) (k := 4) fun t ht => hs _ (by omega)]
    exact ⟨rfl, rfl⟩
  refine ⟨decide_eq_true ⟨?_, fun j hj hl => ?_⟩, e1, e2, e3, e4⟩
  · rw [e1, e2, e3, De.okD_congr fun i hi => e4 i hi]; exact h1
  · rw [e3] at hl; rw [hs j hj]; exact h2 j hj hl
theorem isL_same {W n : Nat} {q : Int} {F G : Nat -> UInt8} (hn : 6 * n <= W) (h : De.isL W q n F = true) (hs : ∀ b, b < W -> G b = F b) :
    De.isL W q n G = true /\ ∀ i, i < n -> De.rdR G 0 i = De.rdR F 0 i /\ De.rdV G 0 i = De.rdV F 0 i := by
  obtain ⟨h1, h2⟩ := De.isL_true h
  have e4 : ∀ i, i < n -> De.rdR G 0 i = De.rdR F 0 i /\ De.rdV G 0 i = De.rdV F 0 i := fun i hi => by
    unfold De.rdR De.rdV
    rw [nm_congr (F := G) (G := F) (o := 0 + 6 * i) (p := 0 + 6 * i) (k := 2) fun t ht => hs _ (by omega), nm_congr (F := G) (G := F) (o := 0 + 6 * i + 2) (p := 0 + 6 * i + 2) (k := 4) fun t ht => hs _ (by omega)]
    exact ⟨rfl, rfl⟩
  refine ⟨decide_eq_true ⟨?_, fun j hj hl => ?_⟩, e4⟩
  · rw [De.okL_congr fun i hi => e4 i hi]; exact h1
  · rw [hs j hj]; exact h2 j hj hl
end Go.Proofs.YtmoenmpbkockoaaGreat
namespace Go.Proofs.YtmoenmpbkockoaaGreat
open Go.RowKit
def Wi (N Q : Nat) (P : Nat -> Bool) (F F2 : Nat -> List UInt8) : Prop := ∀ o, o < Q -> ∀ j, j < 2 * N -> (P (j / 2) = true -> Im.rowF Q o F2 j = Im.rowF Q o F j) /\ (P (j / 2) = false -> Im.rowF Q o F2 j = [])
theorem wd_of {N Q : Nat} {c : Int} {P : Nat -> Bool} {F F2 : Nat -> List UInt8} (h : Wi N Q P F F2) {o : Nat} (ho : o < Q) : Wd N c P (yy N c (gL Q F o) (gF Q F o)) (yy N c (gL Q F2 o) (gF Q F2 o)) := by
  refine ⟨fun j hj e => ?_, fun j hj e => ?_, yy_ok _ _ _ _, yy_ok _ _ _ _⟩
  · have h1 := (h o ho j hj).1 e
    exact yy_congr (by unfold gL; rw [h1]) (by unfold gF; rw [h1])
  · have h1 := (h o ho j hj).2 e
    exact yy_none (by unfold gL; rw [h1]; rfl)
def Sg (K R N Q : Nat) (c : Int) (F : Nat -> List UInt8) (o : Nat) (kd : UInt8) (v : Int) : Prop :=
  ∃ t, Snd K R N c (yy N c (gL Q F o) (gF Q F o)) kd v t /\ R < (Cn.dl (tD (yy N c (gL Q F o) (gF Q F o)) kd v) N).length
theorem erLs_all {e : Nat -> Int} : ∀ {n : Nat}, erLs e n = 0 -> ∀ i, i < n -> e i = 0
  | 0, _, i, hi => absurd hi (Nat.not_lt_zero i)
  | n + 1, h, i, hi => by
    rw [erLs] at h
    by_cases h0 : erLs e n = 0
    · rw [if_pos h0] at h
      rcases Nat.lt_succ_iff_lt_or_eq.1 hi with g | g
      · exact erLs_all h0 i g
      · subst g; exact h
    · rw [if_neg h0] at h; exact absurd h h0
theorem erLs_none {e : Nat -> Int} : ∀ {n : Nat}, (∀ i, i < n -> e i = 0) -> erLs e n = 0
  | 0, _ => rfl
  | n + 1, h => by rw [erLs, if_pos (erLs_none fun i hi => h i (by omega))]; exact h n (by omega)
theorem fit_row {k r c q : Int} {n : Nat} {F : Nat -> List UInt8} {N Q S : Nat} (h : Im.Ck k r c q n F 0 N Q S) {o : Nat} (ho : o < Q) : ∀ j, j < 2 * N -> gL Q F o j = 0 \/ gL Q F o j = sz N c := fun j hj => by
  obtain ⟨⟨hm, hN, hQ, hS⟩, hn, hf⟩ := h.ok rfl
  obtain ⟨h1, h2, h3, h4, h5, h6, h7, h8, h9⟩ := may_true hm
  have hlt : (j / 2 * Q + o) * 2 + j % 2 < n := by
    rw [hn]
    have : (j / 2) * Q + Q <= N * Q := by rw [<- Nat.succ_mul]; exact Nat.mul_le_mul_right _ (by omega)
    omega
  have hsz : S = sz N c := by unfold sz; omega
  unfold gL Im.rowF
  rw [<- hsz]; exact hf _ hlt
theorem st_wiped {k r c q : Int} {n K R N W Q S : Nat} {P : Nat -> Bool} {F F2 : Nat -> List UInt8} (hp : Par k r c q N W 0) (hk : k = (K : Int)) (hr : r = (R : Int)) (hck2 : Im.Ck k r c q n F2 0 N Q S) (hW : Wi N Q P F F2) (hg : (Cn.dl (fun i => !P i) N).length <= R) {o : Nat} (ho : o < Q) {kd : UInt8} (hkd : kd = 1 \/ kd = 2) {v : Int} (hv : 1 <= v /\ v <= 1073741824) (hs : Sg K R N Q c F o kd v) :
    erV2 (erK 0 N c N (gL Q F2 o) kd v) (erL k.toNat (zv N c (gL Q F2 o) (gF Q F2 o) kd v) N) = 0 /\ ∀ b, b < W -> cat2 c.toNat (cH k.toNat (zv N c (gL Q F2 o) (gF Q F2 o) kd v) N) b = cat2 c.toNat (cH k.toNat (zv N c (gL Q F o) (gF Q F o) kd v) N) b := by
  obtain ⟨t, h1, h2⟩ := hs
  rcases hp with ⟨hm, hWW, hNN, _⟩ | ⟨_, _, _, h0⟩
  · obtain ⟨m1, m2, m3, m4, m5, m6, m7, m8, m9⟩ := may_true hm
    obtain ⟨_, h4, h5⟩ := wi_read hkd (by omega) (show K + R = N by omega) (by omega) m5 (wd_of hW ho) h1 h2 hg
    have hkK : k.toNat = K := by omega
    have hWK : W = K * c.toNat := by
      have e2 : c = (c.toNat : Int) := by omega
      rw [hk, e2, <- Int.natCast_mul] at hWW
      exact Int.ofNat.inj hWW
    rw [hkK, hWK]
    refine ⟨?_, h5⟩
    unfold erV2
    rw [erK_ok (fit_row hck2 ho) hkd hv, if_pos rfl]; exact h4
  · exact absurd h0 (by decide)
end Go.Proofs.YtmoenmpbkockoaaGreat
namespace Go.Proofs.YtmoenmpbkockoaaGreat
open Go.RowKit
theorem erK_in {N : Nat} {c : Int} {L : Nat -> Nat} {kd : UInt8} {v : Int} (h : erK 0 N c N L kd v = 0) : erR 0 N c N L = 0 /\ 1 <= v /\ v <= 1073741824 := by
  unfold erK at h
  by_cases e : erR 0 N c N L = 0
  · rw [if_pos e] at h
    by_cases g : (kd = 1 \/ kd = 2) /\ 1 <= v /\ v <= 1073741824
    · exact ⟨e, g.2⟩
    · rw [if_neg g] at h; exact absurd h (by decide)
  · rw [if_neg e] at h; exact absurd h e
theorem dE_parts {k c q : Int} {N W Q : Nat} {F : Nat -> List UInt8} {o : Nat} (h : dE k c q N W Q F o = 0) :
    wnB k N c (gL Q F o) (gF Q F o) = true /\ (1 <= dV k c N Q F o /\ dV k c N Q F o <= 1073741824) /\ De.isD W q (dW k c N Q F o) = true := by
  unfold dE erCR at h
  by_cases h1 : erOL (erR 0 N c N (gL Q F o)) (wnB k N c (gL Q F o) (gF Q F o)) = 0
  · rw [if_pos h1] at h
    obtain ⟨h2, h3⟩ := erV2_zero h
    obtain ⟨h4, _⟩ := erV2_zero h2
    obtain ⟨h5, h6⟩ := erK_in h4
    refine ⟨?_, h6, ?_⟩
    · unfold erOL at h1
      rw [if_pos h5] at h1
      by_cases e : wnB k N c (gL Q F o) (gF Q F o) = true
      · exact e
      · rw [if_neg e] at h1; exact absurd h1 (by decide)
    · unfold De.erB at h3
      rw [if_pos rfl, if_pos rfl] at h3
      by_cases hd : De.isD W q (wnD k N c (gL Q F o) (gF Q F o)) = true
      · exact hd
      · rw [if_neg hd] at h3; exact absurd h3 (by decide)
  · rw [if_neg h1] at h; exact absurd h h1
theorem erR_ok {N : Nat} {c : Int} {L : Nat -> Nat} (h : ∀ j, j < 2 * N -> L j = 0 \/ L j = sz N c) : erR 0 N c N L = 0 := by
  unfold erR; rw [if_pos rfl, if_pos ⟨rfl, h⟩]
theorem lf_parts {k c q : Int} {N W Q : Nat} {F : Nat -> List UInt8} {o v : Int} {m : Nat} (h : erLf k c q N W Q F o v m = 0) : (0 <= o /\ o < (Q : Int)) /\ (1 <= v /\ v <= 1073741824) /\ (1 <= m /\ m <= lea W) /\ De.isL W q m (dat k c N Q F o v) = true := by
  unfold erLf at h
  by_cases ho : 0 <= o /\ o < (Q : Int)
  · rw [if_pos ho] at h
    obtain ⟨h2, h3⟩ := erV2_zero h
    unfold erSt at h2
    obtain ⟨h4, _⟩ := erV2_zero h2
    unfold De.erR at h3
    rw [if_pos rfl, if_pos rfl] at h3
    by_cases hn : (m : Int) < 1 \/ (lea W : Int) < (m : Int)
    · rw [if_pos hn] at h3; exact absurd h3 (by decide)
    · rw [if_neg hn, Int.toNat_natCast] at h3
      by_cases hd : De.isL W q m (dat k c N Q F o v) = true
      · exact ⟨ho, (erK_in h4).2, ⟨by omega, by omega⟩, hd⟩
      · rw [if_neg hd] at h3; exact absurd h3 (by decide)
  · rw [if_neg ho] at h; exact absurd h (by decide)
theorem ob_wiped {k r c q : Int} {n K R : Nat} {F F2 : Nat -> List UInt8} {o A D : Int} {M : Nat} {Rr V : Nat -> Int} {y : Int} {l s : Nat} {SR SV : Nat -> Int} (hO : Ob k r c q n F o 0 A D M Rr V y l s SR SV) (hk : k = (K : Int)) (hr : r = (R : Int)) {N Q S : Nat} {P : Nat -> Bool} (hck2 : Im.Ck k r c q n F2 0 N Q S) (hW : Wi N Q P F F2) (hg : (Cn.dl (fun i => !P i) N).length <= R)
    (hall : ∀ i, i < N -> Cn.hbv (Cn.hP N c (gL Q F o.toNat) (gF Q F o.toNat)) (Cn.hQ N c (gL Q F o.toNat) (gF Q F o.toNat)) y i = true) (hs : Sg K R N Q c F o.toNat 2 y) (hlv : ∀ i, i < l -> Sg K R N Q c F (Rr i).toNat 1 (V i)) :
    ∃ R2 V2 SR2 SV2, Ob k r c q n F2 o 0 A D M R2 V2 y l s SR2 SV2 /\ (∀ i, i < l -> R2 i = Rr i /\ V2 i = V i) /\ ∀ j, j < s -> SR2 j = SR j /\ SV2 j = SV j := by
  rcases hO with ⟨hE, _⟩ | ⟨N', W, Q', S', hp, hck, ho, ⟨hA, hD, hM, hRR, hVV, hy⟩, ⟨hne, hE⟩ | ⟨h0, hc⟩⟩
  · exact absurd rfl hE
  · exact absurd hE.symm hne
  · obtain ⟨⟨hm, hN, hQ, hS⟩, _⟩ := hck.ok rfl
    obtain ⟨⟨_, hN2, hQ2, hS2⟩, _⟩ := hck2.ok rfl
    obtain rfl : N' = N := by omega
    obtain rfl : Q' = Q := by omega
    obtain ⟨_, hW1, hW2⟩ := wide_of hp
    obtain ⟨m1, m2, m3, m4, m5, m6, m7, m8, m9⟩ := may_true hm
    obtain ⟨hB, hyr, hisD⟩ := dE_parts h0
    have hoQ : o.toNat < Q' := by omega
    have hwd := wd_of (c := c) hW hoQ
    rw [hy] at hall hs
    have hwin := wi_win (K := K) (R := R) (by omega) (by omega) hwd hg (by rw [<- hk]; exact hB) (by rw [<- hk]; exact hall)
    rw [<- hk] at hwin
    have hdV : dV k c N' Q' F2 o.toNat = dV k c N' Q' F o.toNat := hwin.1
    obtain ⟨he2, hd2⟩ := st_wiped hp hk hr hck2 hW hg hoQ (.inr rfl) hyr hs
    have hdat : ∀ b, b < W -> dW k c N' Q' F2 o.toNat b = dW k c N' Q' F o.toNat b := fun b hb => by
      have h := hd2 b hb
      unfold dW wnD
      rw [hwin.1]
      exact h
    obtain ⟨i1, i2, i3, i4, i5⟩ := isD_same hW1 hisD hdat
    have hE2 : dE k c q N' W Q' F2 o.toNat = 0 := by
      unfold dE erCR
      rw [hwin.2, erR_ok (fit_row hck2 hoQ)]
      rw [if_pos (show erOL 0 true = 0 from rfl), hwin.1]
      have h := he2
      unfold dV at h
      rw [h]
      unfold erV2 De.erB
      rw [if_pos rfl, if_pos rfl, if_pos rfl]; exact if_pos i1
    have hRV : ∀ i, i < M -> De.rdR (dW k c N' Q' F2 o.toNat) 7 i = Rr i /\ De.rdV (dW k c N' Q' F2 o.toNat) 7 i = V i := fun i hi => by
      rw [hM] at hi
      rw [hRR, hVV]; exact i5 i hi
    have hdef : A = ((nm (dW k c N' Q' F2 o.toNat) 0 4 : Nat) : Int) /\ D = ((nm (dW k c N' Q' F2 o.toNat) 4 1 : Nat) : Int) /\ M = nm (dW k c N' Q' F2 o.toNat) 5 2 := ⟨by rw [i2]; exact hA, by rw [i3]; exact hD, by rw [i4]; exact hM⟩
    have hok : De.okD W q A D M Rr V = true := by rw [hA, hD, hM, hRR, hVV]; exact dE_ok h0
    obtain ⟨hM1, hs1, hz, hnz⟩ := okD_nums hW1 hW2 hok
    rcases hc with ⟨hD0, _, hl, hsM, hSR, hSV⟩ | ⟨hD0, hEl, hl, hsu, hSR, hSV⟩
    · refine ⟨_, _, _, _, .inr ⟨N', W, Q', S, hp, hck2, ho, ⟨hdef.1, hdef.2.1, hdef.2.2, rfl, rfl, by rw [hy]; exact hdV.symm⟩, .inr ⟨hE2, .inl ⟨hD0, rfl, hl, hsM, rfl, rfl⟩⟩⟩, fun i hi => by omega, fun j hj => ?_⟩
      rw [hSR, hSV]
      exact hRV j (by omega)
    · obtain ⟨g1, g2, g3⟩ := hnz hD0
      have hle := erLs_all hEl.symm
      have hlea := lea_ge hW1
      have hst : ∀ i, i < M -> erLf k c q N' W Q' F2 (Rr i) (V i) (lfN W (up A.toNat W) i) = 0 /\ ∀ t, t < lfN W (up A.toNat W) i -> De.rdR (dat k c N' Q' F2 (Rr i) (V i)) 0 t = De.rdR (dat k c N' Q' F (Rr i) (V i)) 0 t /\ De.rdV (dat k c N' Q' F2 (Rr i) (V i)) 0 t = De.rdV (dat k c N' Q' F (Rr i) (V i)) 0 t := fun i hi => by
        obtain ⟨a1, a2, a3, a4⟩ := lf_parts (hle i hi)
        obtain ⟨b1, b2⟩ := st_wiped hp hk hr hck2 hW hg (o := (Rr i).toNat) (by omega) (.inl rfl) a2 (hlv i (by omega))
        obtain ⟨c1, c2⟩ := isL_same (n := lfN W (up A.toNat W) i) (F := dat k c N' Q' F (Rr i) (V i)) (G := dat k c N' Q' F2 (Rr i) (V i)) (by have := De.lea_room W; omega) a4 b2
        refine ⟨?_, c2⟩
        unfold erLf
        rw [if_pos a1]
        have h : erSt k c N' Q' F2 (Rr i) (V i) = 0 := b1
        rw [h]
        unfold erV2 De.erR
        rw [if_pos rfl, if_pos rfl, if_pos rfl, if_neg (by omega), Int.toNat_natCast, if_pos c1]
      refine ⟨_, _, _, _, .inr ⟨N', W, Q', S, hp, hck2, ho, ⟨hdef.1, hdef.2.1, hdef.2.2, rfl, rfl, by rw [hy]; exact hdV.symm⟩, .inr ⟨hE2, .inr ⟨hD0, ?_, hl, hsu, rfl, rfl⟩⟩⟩, fun i hi => hRV i (by omega), fun j hj => ?_⟩
      · refine (erLs_none fun i hi => ?_).symm
        rw [(hRV i hi).1, (hRV i hi).2]
        exact (hst i hi).1
      · rw [hSR, hSV]
        have hju : j < up (up A.toNat W) (lea W) * lea W := Nat.lt_of_lt_of_le (by rw [<- hsu]; exact hj) (up_room (by omega))
        have hjl : j / lea W < M := by rw [g2]; exact Nat.div_lt_of_lt_mul (by rw [Nat.mul_comm]; exact hju)
        have hjm := Nat.div_add_mod j (lea W)
        have hjm2 := Nat.mod_lt j (show 0 < lea W by omega)
        unfold sgR sgV
        rw [(hRV _ hjl).1, (hRV _ hjl).2]
        refine (hst _ hjl).2 _ ?_
        unfold lfN
        rw [Nat.mul_comm] at hjm
        omega
end Go.Proofs.YtmoenmpbkockoaaGreat
namespace Go.Proofs.YtmoenmpbkockoaaGreat
open Go.RowKit
def wF (Q : Nat) (Z : Nat -> Int) (F : Nat -> List UInt8) : Nat -> Nat -> List UInt8
  | 0 => F
  | m + 1 => Im.wpF Q (Z m).toNat (wF Q Z F m)
def hit (Z : Nat -> Int) : Nat -> Nat -> Bool
  | 0, _ => false
  | m + 1, i => hit Z m i || decide (i = (Z m).toNat)
theorem row_wp {Q o d : Nat} (hQ : o < Q) (F : Nat -> List UInt8) (j : Nat) : Im.rowF Q o (Im.wpF Q d F) j = if j / 2 = d then [] else Im.rowF Q o F j := by
  unfold Im.rowF Im.wpF
  have e : ((j / 2 * Q + o) * 2 + j % 2) / (2 * Q) = j / 2 := by
    rw [<- Nat.div_div_eq_div_mul, show ((j / 2 * Q + o) * 2 + j % 2) / 2 = j / 2 * Q + o by omega, Nat.mul_comm, Nat.mul_add_div (by omega), Nat.div_eq_of_lt hQ, Nat.add_zero]
  rw [e]
theorem row_wF {Q o : Nat} (hQ : o < Q) (Z : Nat -> Int) (F : Nat -> List UInt8) (j : Nat) : ∀ m, Im.rowF Q o (wF Q Z F m) j = if hit Z m (j / 2) = true then [] else Im.rowF Q o F j
  | 0 => by rw [wF, hit, if_neg Bool.false_ne_true]
  | m + 1 => by
    rw [wF, row_wp hQ, row_wF hQ Z F j m, hit]
    by_cases a : j / 2 = (Z m).toNat
    · rw [if_pos a, if_pos (by rw [decide_eq_true a, Bool.or_true])]
    · rw [if_neg a, decide_eq_false a, Bool.or_false]
theorem wi_wF (N Q : Nat) (Z : Nat -> Int) (F : Nat -> List UInt8) (m : Nat) : Wi N Q (fun i => !hit Z m i) F (wF Q Z F m) := fun o ho j _ => by
  rw [row_wF ho Z F j m]
  constructor
  · intro e
    have e' : hit Z m (j / 2) = false := by simpa using e
    rw [e', if_neg Bool.false_ne_true]
  · intro e
    have e' : hit Z m (j / 2) = true := by simpa using e
    rw [if_pos e']
theorem dl_one (p : Nat -> Bool) (d : Nat) : ∀ n, (Cn.dl (fun i => p i || decide (i = d)) n).length <= (Cn.dl p n).length + (if d < n then 1 else 0)
  | 0 => by simp [Cn.dl]
  | n + 1 => by
    have ih := dl_one p d n
    have s1 : ∀ q : Nat -> Bool, (Cn.dl q (n + 1)).length = (Cn.dl q n).length + (if q n = true then 1 else 0) := fun q => by
      rw [Cn.dl]; cases q n <;> simp
    rw [s1, s1]
    by_cases e : n = d
    · subst e
      rw [if_neg (Nat.lt_irrefl n)] at ih
      rw [if_pos (Nat.lt_succ_self n)]
      split <;> split <;> omega
    · rw [decide_eq_false e, Bool.or_false]
      generalize (if p n = true then 1 else 0) = z
      by_cases g : d < n
      · rw [if_pos g] at ih; rw [if_pos (show d < n + 1 by omega)]; omega
      · rw [if_neg g] at ih; rw [if_neg (show ¬ d < n + 1 by omega)]; omega
theorem hit_few (Z : Nat -> Int) (N : Nat) : ∀ m, (Cn.dl (fun i => !!hit Z m i) N).length <= m
  | 0 => by rw [show (fun i => !!hit Z 0 i) = fun _ => false from funext fun _ => rfl, Cn.dl_empty (fun _ _ => rfl)]; exact Nat.le_refl _
  | m + 1 => by
    have ih := hit_few Z N m
    have h := dl_one (fun i => !!hit Z m i) (Z m).toNat N
    have e : (fun i => !!hit Z (m + 1) i) = fun i => !!hit Z m i || decide (i = (Z m).toNat) := funext fun i => by rw [hit]; simp
    rw [e]
    split at h <;> omega
end Go.Proofs.YtmoenmpbkockoaaGreat
