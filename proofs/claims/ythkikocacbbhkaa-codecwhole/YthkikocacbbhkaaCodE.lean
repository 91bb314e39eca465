/- Sums of multiples of cells; copies; whether cells are the same. -/
import Derived.Test.YthkikocacbbhkaaCodD
import Derived.Test.YthkikocacbbhkaaMatT
import Derived.Test.YthkikocacbbhkaaKerP
import Derived.Laws.Cover3
namespace Go.Proofs.Ythkikocacbbhkaa
open Go.RowKit

theorem rd_ker {w : World} {ao : Option Addr} {n : Nat} {f : Nat → K} (h : Rd w ao n f) : Ker.Rd w ao n (fun i => (f i).n) := ⟨fun i => (f i).lt, h⟩
theorem lst_ker {w : World} {lo : Option Addr} {ll : Nat} {A : Nat → Option Addr} {C L : Nat → Nat} {H : M} (h : Lst w lo ll A C L H) : Ker.Lst w lo ll A C L (fun i j => (H i j).n) := ⟨fun i hi => rd_ker (h.rd i hi), h.at_⟩
/-- The sum of the first k cells, each times its number. -/
def lin (k : Nat) (F : Nat → K) (H : M) (b : Nat) : K := sum k (fun j => K.mul (F j) (H j b))
theorem tot_ker (k : Nat) (F : Nat → K) (H : M) (b : Nat) : Ker.tot (fun j => (F j).n) (fun j b => (H j b).n) k b = (lin k F H b).n := by
  induction k with
  | zero => rfl
  | succ k ih =>
    show Gf.add (Ker.tot _ _ k b) (Gf.mul (F k).n (H k b).n) = _
    rw [ih]; rfl
theorem own_ker {w : World} {g n : Nat} {f : Nat → Nat} {h : Nat → K} (ho : Ker.Own w g n f) (hn : n ≤ maxLen) (e : ∀ i, f i = (h i).n) : Own w g n n h :=
  ⟨Nat.le_refl _, hn, _, ho.2, fun i _ => by rw [e i]⟩
/-- A call that makes n bytes f in new memory. -/
def New (w : World) (n : Nat) (f : Nat → K) (e : Ending) (w' : World) : Prop :=
  ∃ g, e = .returned (.tuple #[.slice (some ⟨g, 0, none⟩) n n, .int .i64 0]) ∧ w.heap.size ≤ g ∧ Own w' g n n f ∧ Below w.heap.size w w'
theorem new_of {w : World} {ok : Bool} {n : Nat} {f : Nat → Nat} {h : Nat → K} {e : Ending} {w' : World} (hm : Ker.Made w ok n f e w') (hok : ok = true) (h1 : 1 ≤ n) (h2 : n ≤ 65536) (he : ∀ i, f i = (h i).n) : New w n h e w' := by
  subst hok
  obtain ⟨ro, rfl, ha, hb⟩ := hm
  rcases ha with ⟨_, h0, _⟩ | ⟨g, rfl, hg, ho⟩
  · exact absurd (show n = 0 from h0) (by omega)
  · exact ⟨g, rfl, hg, own_ker ho (by show n ≤ maxLen; unfold maxLen; omega) he, hb⟩
theorem okL_yes {k n : Nat} {L : Nat → Nat} (hk : k ≤ 16) (hn : n ≤ 65536) (h1 : 1 ≤ k) (hL : ∀ i, i < k → L i = n) : Ker.okL k k L = true ∧ Ker.n0 k L = n :=
  ⟨decide_eq_true ⟨hk, rfl, fun i hi => by rw [hL i hi, hL 0 (by omega)]; exact ⟨hn, rfl⟩⟩, by unfold Ker.n0; rw [if_neg (by omega)]; exact hL 0 (by omega)⟩
theorem dot_k (w : World) (co lo : Option Addr) (k cc cl n : Nat) (F : Nat → K) (A : Nat → Option Addr) (C L : Nat → Nat) (H : M) (hk1 : 1 ≤ k) (hk : k ≤ 16) (hn1 : 1 ≤ n) (hn : n ≤ 65536) (hc : Rd w co k F) (hl : Lst w lo k A C L H) (hL : ∀ i, i < k → L i = n) :
    Calls Try.prog 21 #[.slice co k cc, .slice lo k cl] w (New w n (lin k F H)) := by
  obtain ⟨h1, h2⟩ := okL_yes hk hn hk1 hL
  refine (Ker.dot_any w co lo k cc k cl _ A C L _ (by omega) (by omega) (rd_ker hc) (lst_ker hl)).mono fun e w' h => ?_
  rw [h2] at h
  exact new_of h h1 hn1 hn (tot_ker k F H)
theorem rdot_k (w : World) (co lo : Option Addr) (k cc cl n : Nat) (F : Nat → K) (A : Nat → Option Addr) (C L : Nat → Nat) (H : M) (hk1 : 1 ≤ k) (hk : k ≤ 16) (hn1 : 1 ≤ n) (hn : n ≤ 65536) (hc : Rd w co k F) (hl : Lst w lo k A C L H) (hL : ∀ i, i < k → L i = n) :
    Calls Try.prog 35 #[.slice co k cc, .slice lo k cl] w (New w n (lin k F H)) := by
  obtain ⟨h1, h2⟩ := okL_yes hk hn hk1 hL
  refine (Ker.rdot_any w co lo k cc k cl _ A C L _ (by omega) (by omega) (rd_ker hc) (lst_ker hl) (fun i hi => by rw [hL i hi]; omega)).mono fun e w' h => ?_
  rw [h2] at h
  exact new_of h h1 hn1 hn (tot_ker k F H)
theorem xor_any (w : World) (ao bo : Option Addr) (n ca cb : Nat) (f h : Nat → K) (hn1 : 1 ≤ n) (hn : n ≤ 65536) (ha : Rd w ao n f) (hb : Rd w bo n h) :
    Calls Try.prog 22 #[.slice ao n ca, .slice bo n cb] w (New w n (fun i => K.add (f i) (h i))) := by
  refine (Ker.xor_any w ao bo n ca n cb _ _ (rd_ker ha) (rd_ker hb)).mono fun e w' hm => ?_
  refine new_of hm (by unfold Ker.okP; simp; omega) hn1 hn fun i => ?_
  show Gf.add (f i).n (Gf.mul 1 (h i).n) = _
  rw [Gf.one_mul _ (h i).lt]; rfl

theorem sum_any (w : World) (co lo : Option Addr) (k cc cl n : Nat) (F : Nat → K) (A : Nat → Option Addr) (C L : Nat → Nat) (H : M) (hk1 : 1 ≤ k) (hk : k ≤ 16) (hn1 : 1 ≤ n) (hn : n ≤ 65536) (hc : Rd w co k F) (hl : Lst w lo k A C L H) (hL : ∀ i, i < k → L i = n) :
    Calls Try.prog 37 #[.slice co k cc, .slice lo k cl] w fun e w' => ∃ g, e = .returned (.slice (some ⟨g, 0, none⟩) n n) ∧ w.heap.size ≤ g ∧ Own w' g n n (lin k F H) ∧ Below w.heap.size w w' := by
  have HD := dot_k w co lo k cc cl n F A C L H hk1 hk hn1 hn hc hl hL
  clear hc hl hL
  go_enter Try.func37, Try.ntmps37
  go_wp2_with (go_at_call 21; refine HD.mono ?_; rintro e w' ⟨g, rfl, hg, ho, hb⟩)
  go_ret
  exact ⟨g, rfl, hg, ho, hb⟩

theorem info5c : (Try.prog.info? 5).map (fun i => (i.zero, i.size, i.bytes)) = some (some (.int .u8 0), 1, 1) := by kernel_rfl
theorem owns_empty (w : World) : (w.alloc (.cells #[] 5)).ownsRow w.heap.size 5 1 (.slice (some ⟨w.heap.size, 0, none⟩) 0 0) 0 [] :=
  ⟨rfl, .inr ⟨w.heap.size, 0, #[], rfl, Nat.le_refl _, heap_alloc_new w _, Nat.le_refl _, Nat.zero_le _, rfl, rfl⟩⟩
theorem eq_nil_no (w : World) (a : Addr) (l c : Nat) : (binOp .eql 23 (.slice (some a) l c) (.slice none 0 0)).run Try.prog w = .ok (.bool false) w := by
  have h : (Op.equal 23 (.slice (some a) l c) (.slice none 0 0)).run Try.prog w = .ok false w := run_equalIn_slice_nil w 9999 23 5 (some a) l c Try.underlying23
  simp only [binOp]
  simp [h]
set_option maxHeartbeats 400000 in
theorem clone_any (w : World) (ao : Option Addr) (n ca : Nat) (f : Nat → K) (hn1 : 1 ≤ n) (hn : n ≤ 65536) (ha : Rd w ao n f) :
    Calls Try.prog 39 #[.slice ao n ca] w fun e w' => ∃ g u, e = .returned (.slice (some ⟨g, 0, none⟩) n u) ∧ w.heap.size ≤ g ∧ Own w' g n u f ∧ Below w.heap.size w w' := by
  obtain ⟨b, off, rfl, _⟩ := ha (by omega)
  obtain ⟨i0, hi, hz0, hz1, hz2⟩ := info_parts info5c
  have HR : Hid (Rd (w.alloc (.cells #[] 5)) (some ⟨b, off, none⟩) n f) := ha.below ((Below.refl _ _).alloc (Nat.le_refl _) _)
  obtain ⟨XS, hXS⟩ : ∃ XS, XS = cellsOf n f := ⟨_, rfl⟩
  have HX : Hid (XS = cellsOf n f) := hXS
  have hxl : XS.length = n * 1 := by rw [hXS, cellsOf_length, Nat.mul_one]
  have HN : Hid (∀ j u, XS[j]? = some u → (w.alloc (.cells #[] 5)).cell? ((⟨b, off, none⟩ : Addr).add j) = some u) := by rw [hXS]; exact rd_news HR.out
  have HO : Hid (∀ u ∈ XS, u.oneCell' = true) := by rw [hXS]; exact cellsOf_one n f
  have hnil := fun w => eq_nil_no w ⟨b, off, none⟩ n ca
  clear ha hXS
  go_enter Try.func39, Try.ntmps39
  go_wp2_with (at_builtin; refine wpList_append_own _ (by rfl) (.tmp 5) (.tmp 6) 23 (by rfl) w.heap.size 5 i0 (.int .u8 0) 1 1 Try.underlying23 hi hz0 hz1 hz2 (by rfl) (by decide) (.slice (some ⟨w.heap.size, 0, none⟩) 0 0) 0 [] (by rfl) (owns_empty w) ⟨b, off, none⟩ n ca XS (by rfl) hxl HN.out HO.out (by unfold maxLen; omega) (by omega) (by simp) ?_; intro v' w' hown hgrow _; obtain ⟨ao', cap', rfl⟩ := owns_form hown)
  go_ret
  rw [Nat.zero_add, List.nil_append, HX.out] at hown
  rcases hown.2 with ⟨_, h0⟩ | ⟨g, cap, cur, e, hg, _⟩
  · omega
  · cases e
    exact ⟨g, cap', rfl, hg, owns_own hown, ((Below.refl _ _).alloc (Nat.le_refl _) _).grown hgrow (by simp) (fun q hq => by cases hq; exact Nat.le_refl _)⟩
theorem str_inj {n : Nat} {f h : Nat → K} (e : str n f = str n h) (i : Nat) (hi : i < n) : f i = h i := by
  have e1 : (str n f).data.toList[i]? = (str n h).data.toList[i]? := by rw [e]
  unfold str at e1
  rw [strOfNums_data, strOfNums_data] at e1
  simp [hi] at e1
  have h1 := (f i).lt
  have h2 := (h i).lt
  have e2 := congrArg UInt8.toNat e1
  simp at e2
  exact K.ext (by omega)
/-- Whether n bytes are the same. -/
def eqB (n : Nat) (f h : Nat → K) : Bool := (str n f).toList == (str n h).toList
theorem eqB_true {n : Nat} {f h : Nat → K} : eqB n f h = true ↔ ∀ i, i < n → f i = h i := by
  unfold eqB
  rw [beq_iff_eq]
  rw [ByteArray.toList_eq, ByteArray.toList_eq]
  exact ⟨fun e => str_inj (Go.WideShapes.bytes_inj e), fun e => by rw [str_congr e]⟩
theorem equal_any (w : World) (ao bo : Option Addr) (n ca cb : Nat) (f h : Nat → K) (ha : Rd w ao n f) (hb : Rd w bo n h) :
    Calls Try.prog 28 #[.slice ao n ca, .slice bo n cb] w fun e w' => e = .returned (.bool (eqB n f h)) ∧ w' = w := by
  have v1 := conv_any ha ca
  have v2 := conv_any hb cb
  unfold eqB
  clear ha hb
  go_enter Try.func28, Try.ntmps28
  go_wp2
  go_ret
  exact ⟨rfl, rfl⟩
/-- Whether n cells of m bytes are the same. -/
def eqAll (ll n : Nat) (H H' : M) : Bool := decide (∀ i, i < ll → eqB n (H i) (H' i) = true)
set_option maxHeartbeats 1000000 in
set_option maxRecDepth 100000 in
theorem eqfunc_any (w : World) (ao bo : Option Addr) (ll ca cb n : Nat) (A B : Nat → Option Addr) (C D L L' : Nat → Nat) (H H' : M) (hll : ll ≤ 1000000) (ha : Lst w ao ll A C L H) (hb : Lst w bo ll B D L' H') (hL : ∀ i, i < ll → L i = n) (hL' : ∀ i, i < ll → L' i = n) :
    Calls Try.prog 27 #[.slice ao ll ca, .slice bo ll cb, .func (.func 28) #[] #[]] w fun e w' => e = .returned (.bool (eqAll ll n H H')) ∧ w' = w := by
  have HA : Hid (Lst w ao ll A C L H) := ha
  have HB : Hid (Lst w bo ll B D L' H') := hb
  have HL : Hid (∀ i, i < ll → L i = n) := hL
  have HL' : Hid (∀ i, i < ll → L' i = n) := hL'
  clear ha hb hL hL'
  have hbq : ((ll : Int) != (ll : Int)) = false := by simp
  by_cases hall : ∀ i, i < ll → eqB n (H i) (H' i) = true
  · rw [show eqAll ll n H H' = true from decide_eq_true hall]
    have HALL : Hid (∀ i, i < ll → eqB n (H i) (H' i) = true) := hall
    clear hall
    go_enter Try.func27, Try.ntmps27
    go_wp2
    go_loop [17] (fun x => ∃ i : Nat, i ≤ ll ∧ x = .int .i64 i) (fun x => ll - (intOf x).toNat)
    case atStart => exact ⟨0, Nat.zero_le _, rfl⟩
    case round =>
      obtain ⟨i, hi, rfl⟩ := hrel
      by_cases hlt : i < ll
      · obtain ⟨b, off, rfl, hca⟩ := HA.out.at_ (by omega)
        obtain ⟨b', off', rfl, hcb⟩ := HB.out.at_ (by omega)
        have c1 := hca i hlt
        have c2 := hcb i hlt
        rw [HL.out i hlt] at c1
        rw [HL'.out i hlt] at c2
        have r1 := HA.out.rd i hlt
        have r2 := HB.out.rd i hlt
        rw [HL.out i hlt] at r1
        rw [HL'.out i hlt] at r2
        have HE := equal_any w (A i) (B i) n (C i) (D i) (H i) (H' i) r1 r2
        rw [HALL.out i hlt] at HE
        clear hca hcb r1 r2
        have i1 : (0 : Int) ≤ (i : Int) := by omega
        have i2 : (i : Int) < (ll : Int) := by omega
        go_wp2_with (go_at_call 28; refine HE.mono ?_; rintro e w' ⟨rfl, rfl⟩)
        go_round
        case rel => exact ⟨i + 1, by omega, by go_num⟩
        case measure => simp [intOf]; omega
      · go_wp2
        go_ret
        exact ⟨rfl, rfl⟩
  · rw [show eqAll ll n H H' = false from decide_eq_false hall]
    obtain ⟨q, hq, hne, heq⟩ := first_not hall
    have HEQ : Hid (∀ i, i < q → eqB n (H i) (H' i) = true) := heq
    have HNE : Hid (eqB n (H q) (H' q) = false) := by show _ = _; simpa using hne
    clear hall hne heq
    go_enter Try.func27, Try.ntmps27
    go_wp2
    go_loop [17] (fun x => ∃ i : Nat, i ≤ q ∧ x = .int .i64 i) (fun x => ll - (intOf x).toNat)
    case atStart => exact ⟨0, Nat.zero_le _, rfl⟩
    case round =>
      obtain ⟨i, hi, rfl⟩ := hrel
      have hlt : i < ll := by omega
      obtain ⟨b, off, rfl, hca⟩ := HA.out.at_ (by omega)
      obtain ⟨b', off', rfl, hcb⟩ := HB.out.at_ (by omega)
      have c1 := hca i hlt
      have c2 := hcb i hlt
      rw [HL.out i hlt] at c1
      rw [HL'.out i hlt] at c2
      have r1 := HA.out.rd i hlt
      have r2 := HB.out.rd i hlt
      rw [HL.out i hlt] at r1
      rw [HL'.out i hlt] at r2
      have HE := equal_any w (A i) (B i) n (C i) (D i) (H i) (H' i) r1 r2
      clear hca hcb r1 r2
      have i1 : (0 : Int) ≤ (i : Int) := by omega
      have i2 : (i : Int) < (ll : Int) := by omega
      by_cases hiq : i < q
      · rw [HEQ.out i hiq] at HE
        go_wp2_with (go_at_call 28; refine HE.mono ?_; rintro e w' ⟨rfl, rfl⟩)
        go_round
        case rel => exact ⟨i + 1, by omega, by go_num⟩
        case measure => simp [intOf]; omega
      · obtain rfl : i = q := by omega
        rw [HNE.out] at HE
        go_wp2_with (go_at_call 28; refine HE.mono ?_; rintro e w' ⟨rfl, rfl⟩)
        go_ret
        exact ⟨rfl, rfl⟩
end Go.Proofs.Ythkikocacbbhkaa
