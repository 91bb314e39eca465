import Derived.Test.YtdmpiipllmjloaaGreatPj18
namespace Go.Proofs.YtdmpiipllmjloaaGreat.Cod
open Go.RowKit
def str (n : Nat) (f : Nat -> K) : ByteArray := strOfNums ((List.range n).map fun i => ((f i).n : Int))
theorem str_congr {n : Nat} {f h : Nat -> K} (e : ∀ i, i < n -> f i = h i) : str n f = str n h := by
  unfold str
  congr 1
  apply List.map_congr_left
  intro i hi
  rw [e i (List.mem_range.1 hi)]
theorem conv_any {w : World} {ao : Option Addr} {n : Nat} {f : Nat -> K} (h : Rd w ao n f) (cp : Nat) : (convert 55 9 (.slice ao n cp)).run Tryz.prog w = .ok (.string (str n f)) w := by
  by_cases hn : 0 < n
  · obtain ⟨b, off, rfl, hc⟩ := h hn
    exact run_convert_bytes_arg w 55 5 Tryz.underlying55 Tryz.underlying5 b off n cp _ (by simp) (fun i hi => by rw [hc i hi]; simp [hi]) 9 Tryz.underlying9
  · obtain rfl : n = 0 := by omega
    cases ao with
    | none => exact run_convert_bytes_nil w 55 5 Tryz.underlying55 Tryz.underlying5 0 cp 9 Tryz.underlying9
    | some a =>
      rw [run_convert_bytes_string w 55 9 5 _ 0 cp Tryz.underlying55 Tryz.underlying5 Tryz.underlying9, run_bytesToString w a 0 cp [] (by simp [loadCells, loadCellsFrom])]
      rfl
theorem str_inj {n : Nat} {f h : Nat -> K} (e : str n f = str n h) (i : Nat) (hi : i < n) : f i = h i := by
  have e1 : (str n f).data.toList[i]? = (str n h).data.toList[i]? := by rw [e]
  unfold str at e1
  rw [strOfNums_data, strOfNums_data] at e1
  simp [hi] at e1
  have h1 := (f i).lt
  have h2 := (h i).lt
  have e2 := congrArg UInt8.toNat e1
  simp at e2
  exact K.ext (by omega)
def eqB (n : Nat) (f h : Nat -> K) : Bool := (str n f).toList == (str n h).toList
theorem eqB_true {n : Nat} {f h : Nat -> K} : eqB n f h = true ↔ ∀ i, i < n -> f i = h i := by
  unfold eqB
  rw [beq_iff_eq]
  rw [ByteArray.toList_eq, ByteArray.toList_eq]
  exact ⟨fun e => str_inj (Go.WideShapes.bytes_inj e), fun e => by rw [str_congr e]⟩
theorem equal_any (w : World) (ao bo : Option Addr) (n ca cb : Nat) (f h : Nat -> K) (ha : Rd w ao n f) (hb : Rd w bo n h) :
    Calls Tryz.prog 60 #[.slice ao n ca, .slice bo n cb] w fun e w' => e = .returned (.bool (eqB n f h)) /\ w' = w := by
  have v1 := conv_any ha ca
  have v2 := conv_any hb cb
  unfold eqB
  clear ha hb
  go_enter Tryz.func60, Tryz.ntmps60
  go_wp2
  go_ret
  exact ⟨rfl, rfl⟩
def eqAll (ll n : Nat) (H H' : M) : Bool := decide (∀ i, i < ll -> eqB n (H i) (H' i) = true)
set_option maxHeartbeats 1000000 in
set_option maxRecDepth 100000 in
theorem eqfunc_any (w : World) (ao bo : Option Addr) (ll ca cb n : Nat) (A B : Nat -> Option Addr) (C D L L' : Nat -> Nat) (H H' : M) (hll : ll <= 1000000) (ha : Lst w ao ll A C L H) (hb : Lst w bo ll B D L' H') (hL : ∀ i, i < ll -> L i = n) (hL' : ∀ i, i < ll -> L' i = n) :
    Calls Tryz.prog 58 #[.slice ao ll ca, .slice bo ll cb, .func (.func 60) #[] #[]] w fun e w' => e = .returned (.bool (eqAll ll n H H')) /\ w' = w := by
  have HA : Hid (Lst w ao ll A C L H) := ha
  have HB : Hid (Lst w bo ll B D L' H') := hb
  have HL : Hid (∀ i, i < ll -> L i = n) := hL
  have HL' : Hid (∀ i, i < ll -> L' i = n) := hL'
  clear ha hb hL hL'
  have hbq : ((ll : Int) != (ll : Int)) = false := by simp
  by_cases hall : ∀ i, i < ll -> eqB n (H i) (H' i) = true
  · rw [show eqAll ll n H H' = true from decide_eq_true hall]
    have HALL : Hid (∀ i, i < ll -> eqB n (H i) (H' i) = true) := hall
    clear hall
    go_enter Tryz.func58, Tryz.ntmps58
    go_wp2
    go_loop [17] (fun x => ∃ i : Nat, i <= ll /\ x = .int .i64 i) (fun x => ll - (intOf x).toNat)
    case atStart => exact ⟨0, Nat.zero_le _, rfl⟩
    case round =>
      obtain ⟨i, hi, rfl⟩ := hrel
      by_cases hlt : i < ll
      · obtain ⟨b, off, rfl, hca⟩ := HA.out.at_ (by omega)
        obtain ⟨b', off', rfl, hcb⟩ := HB.out.at_ (by omega)
        have c1 := hca i hlt
        have c2 := hcb i hlt
        rw [HL.out i hlt] at c1
        rw [HL'.out i hlt] at c2
        have r1 := HA.out.rd i hlt
        have r2 := HB.out.rd i hlt
        rw [HL.out i hlt] at r1
        rw [HL'.out i hlt] at r2
        have HE := equal_any w (A i) (B i) n (C i) (D i) (H i) (H' i) r1 r2
        rw [HALL.out i hlt] at HE
        clear hca hcb r1 r2
        have i1 : (0 : Int) <= (i : Int) := by omega
        have i2 : (i : Int) < (ll : Int) := by omega
        go_wp2_with (go_at_call 60; refine HE.mono ?_; rintro e w' ⟨rfl, rfl⟩)
        go_round
        case rel => exact ⟨i + 1, by omega, by go_num⟩
        case measure => simp [intOf]; omega
      · go_wp2
        go_ret
        exact ⟨rfl, rfl⟩
  · rw [show eqAll ll n H H' = false from decide_eq_false hall]
    obtain ⟨q, hq, hne, heq⟩ := first_not hall
    have HEQ : Hid (∀ i, i < q -> eqB n (H i) (H' i) = true) := heq
    have HNE : Hid (eqB n (H q) (H' q) = false) := by show _ = _; simpa using hne
    clear hall hne heq
    go_enter Tryz.func58, Tryz.ntmps58
    go_wp2
    go_loop [17] (fun x => ∃ i : Nat, i <= q /\ x = .int .i64 i) (fun x => ll - (intOf x).toNat)
    case atStart => exact ⟨0, Nat.zero_le _, rfl⟩
    case round =>
      obtain ⟨i, hi, rfl⟩ := hrel
      have hlt : i < ll := by omega
      obtain ⟨b, off, rfl, hca⟩ := HA.out.at_ (by omega)
      obtain ⟨b', off', rfl, hcb⟩ := HB.out.at_ (by omega)
      have c1 := hca i hlt
      have c2 := hcb i hlt
      rw [HL.out i hlt] at c1
      rw [HL'.out i hlt] at c2
      have r1 := HA.out.rd i hlt
      have r2 := HB.out.rd i hlt
      rw [HL.out i hlt] at r1
      rw [HL'.out i hlt] at r2
      have HE := equal_any w (A i) (B i) n (C i) (D i) (H i) (H' i) r1 r2
      clear hca hcb r1 r2
      have i1 : (0 : Int) <= (i : Int) := by omega
      have i2 : (i : Int) < (ll : Int) := by omega
      by_cases hiq : i < q
      · rw [HEQ.out i hiq] at HE
        go_wp2_with (go_at_call 60; refine HE.mono ?_; rintro e w' ⟨rfl, rfl⟩)
        go_round
        case rel => exact ⟨i + 1, by omega, by go_num⟩
        case measure => simp [intOf]; omega
      · obtain rfl : i = q := by omega
        rw [HNE.out] at HE
        go_wp2_with (go_at_call 60; refine HE.mono ?_; rintro e w' ⟨rfl, rfl⟩)
        go_ret
        exact ⟨rfl, rfl⟩
def okVer (ll : Nat) (L : Nat -> Nat) (k r : Int) : Bool := mayB k r && (okC ll L (k + r) && decide (k + r <= (cnt L ll : Int)))
def verB (k r m : Nat) (H : M) : Bool := eqAll r m (par k H) (fun i => H (k + i))
def Told2 (w : World) (v : Bool) (err : Int) (e : Ending) (w' : World) : Prop := e = .returned (.tuple #[.bool v, .int .i64 err]) /\ Below w.heap.size w w'
set_option maxHeartbeats 600000 in
set_option maxRecDepth 100000 in
theorem Verify_any (w : World) (k r : Int) (lo : Option Addr) (ll cl : Nat) (A : Nat -> Option Addr) (C L : Nat -> Nat) (H : M) (hl : Lst w lo ll A C L H) (hcl : ll <= cl) :
    Calls Tryz.prog 28 #[.int .i64 k, .int .i64 r, .slice lo ll cl] w (Told2 w (okVer ll L k r && verB k.toNat r.toNat (len0 L ll) H) (errE (mayB k r) (okVer ll L k r))) := by
  have HM := may_any w k r
  cases hmay : mayB k r
  · rw [show okVer ll L k r = false by unfold okVer; rw [hmay]; rfl]
    rw [hmay] at HM
    clear hmay
    go_enter Tryz.func28, Tryz.ntmps28
    go_wp2_with (go_at_call 56; refine HM.mono ?_; rintro e w' ⟨rfl, rfl⟩)
    go_ret2
    exact ⟨rfl, Below.refl _ _⟩
  · obtain ⟨h1, h2, h3, h4⟩ := mayB_true hmay
    rw [hmay] at HM
    have HT := there_any w lo ll cl A C L H (k + r) (by omega) hl
    cases hoc : okC ll L (k + r)
    · have HOK : Hid (okVer ll L k r = false) := by show _ = _; unfold okVer; rw [hoc, Bool.false_and, Bool.and_false]
      unfold There at HT
      rw [hoc] at HT
      have e1 : errB false 40 = 40 := rfl
      clear hmay hoc hl
      go_enter Tryz.func28, Tryz.ntmps28
      go_wp2_with (first | (go_at_call 56; refine HM.mono ?_; rintro e w' ⟨rfl, rfl⟩) | (go_at_call 57; refine HT.mono ?_; rintro e w1 ⟨ao, cap, rfl, _, _, _, hb⟩))
      go_ret2
      rw [HOK.out]
      exact ⟨rfl, hb⟩
    · obtain ⟨hll, hokT⟩ := okC_true hoc
      obtain ⟨k, rfl⟩ := Int.eq_ofNat_of_zero_le (show 0 <= k by omega)
      obtain ⟨r, rfl⟩ := Int.eq_ofNat_of_zero_le h3
      obtain rfl : ll = k + r := by omega
      clear hll
      rw [Int.toNat_natCast, Int.toNat_natCast]
      unfold There at HT
      rw [hoc] at HT
      have e1 : errB true 40 = 0 := rfl
      have e2 : lenB true (cnt L (k + r)) = cnt L (k + r) := rfl
      obtain ⟨cn, hcn⟩ : ∃ cn, cn = cnt L (k + r) := ⟨_, rfl⟩
      rw [<- hcn] at HT e2
      by_cases hck : cn < k + r
      · have HOK : Hid (okVer (k + r) L k r = false) := by show _ = _; unfold okVer; rw [show decide ((k : Int) + (r : Int) <= (cnt L (k + r) : Int)) = false from decide_eq_false (by omega), Bool.and_false, Bool.and_false]
        have hci : (cn : Int) < (k : Int) + (r : Int) := by omega
        clear hmay hoc hl hokT hcn
        go_enter Tryz.func28, Tryz.ntmps28
        go_wp2_with (first | (go_at_call 56; refine HM.mono ?_; rintro e w' ⟨rfl, rfl⟩) | (go_at_call 57; refine HT.mono ?_; rintro e w1 ⟨ao, cap, rfl, _, _, _, hb⟩))
        go_ret2
        rw [HOK.out]
        exact ⟨rfl, hb⟩
      · have HOK : Hid (okVer (k + r) L k r = true) := by show _ = _; unfold okVer; rw [hmay, hoc, show decide ((k : Int) + (r : Int) <= (cnt L (k + r) : Int)) = true from decide_eq_true (by omega)]; rfl
        obtain ⟨m1, m2, m3⟩ := alike_of hokT (by omega)
        obtain ⟨m, hm⟩ : ∃ m, m = len0 L (k + r) := ⟨_, rfl⟩
        rw [<- hm] at m1 m2 m3 ⊢
        have HLm : Hid (∀ i, i < k + r -> L i = m) := fun i hi => by
          rcases m3 i hi with g | g
          · exact absurd g (all_there (by omega) i hi)
          · exact g
        have hmm := @run_makeMap Tryz.prog
        have HL : Hid (Lst w lo (k + r) A C L H) := hl
        obtain ⟨bl, ol, rfl, _⟩ := hl.at_ (by omega)
        have i1 : (k : Int) <= (cl : Int) := by omega
        have i2 : (k : Int) <= (k : Int) + (r : Int) := by omega
        have i3 : (k : Int) + (r : Int) <= (cl : Int) := by omega
        have hci : ¬ ((cn : Int) < (k : Int) + (r : Int)) := by omega
        clear hmay hoc hl hokT m3 hcn hm
        go_enter Tryz.func28, Tryz.ntmps28
        go_wp2_with (first
          | (go_at_call 56; refine HM.mono ?_; rintro e w' ⟨rfl, rfl⟩)
          | (go_at_call 57; refine HT.mono ?_; rintro e w1 ⟨ao, cap, rfl, _, _, _, hb⟩))
        have b0 : Below w1.drew.heap.size w1.drew (w1.drew.alloc (.map #[] 0)) := (Below.refl _ _).alloc (Nat.le_refl _) _
        have HP := parity_any (w1.drew.alloc (.map #[] 0)) w1.drew.heap.size w1.drew.heap.size k r 0 m (some ⟨bl, ol, none⟩) cl A C L H (by omega) (by omega) (by omega) m1 m2 (by omega) (by simp) (Kept.made w1.drew k r) (((HL.out.below hb).below (below_drew _ w1)).below b0).upto (fun i hi => HLm.out i (by omega))
        by_cases hcap : cl = k
        · have HR0 : Hid (r = 0) := by show _ = _; omega
          have HZ : Hid (∀ w2, Lst w2 (some ⟨bl, ol, none⟩) r (fun _ => none) (fun _ => 0) (fun _ => m) (fun i => H (k + i))) := fun w2 => ⟨fun i hi => absurd hi (by have := HR0.out; omega), fun hp => absurd hp (by have := HR0.out; omega)⟩
          subst hcap
          go_region_held3 (fun _ => True) (trivial) (first
            | (go_at_call 59; refine HP.mono ?_; rintro e w2 ⟨ao2, cap2, T, U, rfl, hcop, hk2, hke⟩
               have bw2 : Below w1.drew.heap.size w1.drew w2 := below_map hke
               have HE : Calls Tryz.prog 58 #[.slice ao2 r cap2, .slice (some ⟨bl, ol, none⟩) 0 0, .func (.func 60) #[] #[]] w2 fun e w' => e = .returned (.bool (eqAll r m (par cl H) fun i => H (cl + i))) /\ w' = w2 := (by have h0 := HR0.out; have hz := HZ.out w2; have hc := hcop.lst; rw [h0] at hz hc ⊢; exact eqfunc_any w2 ao2 (some ⟨bl, ol, none⟩) 0 cap2 0 m T (fun _ => none) U (fun _ => 0) (fun _ => m) (fun _ => m) (par cl H) (fun i => H (cl + i)) (by omega) hc hz (fun _ _ => rfl) (fun _ _ => rfl)))
            | (go_at_call 58; refine HE.mono ?_; rintro e w3 ⟨rfl, hw3⟩; obtain rfl := hw3.symm))
          go_wp2
          go_ret2
          rw [HOK.out]
          exact ⟨rfl, below_step hb (below_step (below_drew _ w1) bw2 (Nat.le_refl _)) hb.size⟩
        · have hkc : ¬ k = cl := fun e => hcap e.symm
          go_region_held3 (fun _ => True) (trivial) (first
            | (go_at_call 59; refine HP.mono ?_; rintro e w2 ⟨ao2, cap2, T, U, rfl, hcop, hk2, hke⟩
               have bw2 : Below w1.drew.heap.size w1.drew w2 := below_map hke
               have HE := eqfunc_any w2 ao2 (some ⟨bl, ol + k, none⟩) r cap2 (cl - k) m T _ U _ (fun _ => m) _ (par k H) _ (by omega) hcop.lst (((HL.out.below hb).below (below_drew _ w1)).below bw2).from (fun _ _ => rfl) (fun i hi => HLm.out (k + i) (by omega)))
            | (go_at_call 58; refine HE.mono ?_; rintro e w3 ⟨rfl, hw3⟩; obtain rfl := hw3.symm))
          go_wp2
          go_ret2
          rw [HOK.out]
          exact ⟨rfl, below_step hb (below_step (below_drew _ w1) bw2 (Nat.le_refl _)) hb.size⟩
end Go.Proofs.YtdmpiipllmjloaaGreat.Cod
