/- The parity cells that data cells make. -/
import Derived.Test.YthkikocacbbhkaaCodC
import Derived.Test.YthkikocacbbhkaaCodE
namespace Go.Proofs.Ythkikocacbbhkaa
open Go.RowKit

/-- All rows of cells stay. -/
def Stay (w w' : World) : Prop := ∀ (x : Nat) (cur : Array Value) (e : TypeId) (f : Nat × Nat), w.heap[x]? = some (.cells cur e f) → w'.heap[x]? = some (.cells cur e f)
theorem Stay.refl (w : World) : Stay w w := fun _ _ _ _ h => h
theorem Stay.trans {a b c : World} (h : Stay a b) (k : Stay b c) : Stay a c := fun x cur e f hx => k x cur e f (h x cur e f hx)
theorem lt_of_block {w : World} {x : Nat} {o : Obj} (h : w.heap[x]? = some o) : x < w.heap.size := (Array.getElem?_eq_some_iff.1 h).1
theorem Stay.of_below {w w' : World} (h : Below w.heap.size w w') : Stay w w' := fun x _ _ _ hx => (h.block x (lt_of_block hx)).trans hx
theorem Kept.stay {w w' : World} {b B k r n c0 c1 : Nat} (h : Kept w b B k r n c0 c1) (hb : Keeps b (b + 1) w w') : Stay w w' := fun x cur e f hx => by
  have hne : x ≠ b := by
    rintro rfl
    obtain ⟨D, ⟨es, clock, hm, _⟩, _⟩ := h
    rw [hm] at hx
    cases hx
  exact (hb.block x (lt_of_block hx) (by omega)).trans hx
theorem cell_block {w : World} {a : Addr} {v : Value} (h : w.cell? a = some v) : ∃ cur e f, w.heap[a.block]? = some (.cells cur e f) := by
  unfold World.cell? at h
  split at h
  · rename_i cur e f heq
    exact ⟨_, _, _, heq⟩
  · cases h
theorem Stay.cell {w w' : World} {a : Addr} {v : Value} (h : Stay w w') (hc : w.cell? a = some v) : w'.cell? a = some v := by
  obtain ⟨cur, e, f, hb⟩ := cell_block hc
  exact (World.cell?_of_block ((h _ _ _ _ hb).trans hb.symm)).trans hc
theorem Rd.stay {w w' : World} {ao : Option Addr} {n : Nat} {f : Nat → K} (h : Rd w ao n f) (hs : Stay w w') : Rd w' ao n f := fun hn => by
  obtain ⟨b, off, rfl, hc⟩ := h hn
  exact ⟨b, off, rfl, fun i hi => hs.cell (hc i hi)⟩
theorem RdI.stay {w w' : World} {ao : Option Addr} {n : Nat} {R : Nat → Int} (h : RdI w ao n R) (hs : Stay w w') : RdI w' ao n R := fun hn => by
  obtain ⟨b, off, rfl, hc⟩ := h hn
  exact ⟨b, off, rfl, fun i hi => hs.cell (hc i hi)⟩
theorem Lst.stay {w w' : World} {lo : Option Addr} {ll : Nat} {A : Nat → Option Addr} {C L : Nat → Nat} {H : M} (h : Lst w lo ll A C L H) (hs : Stay w w') : Lst w' lo ll A C L H :=
  ⟨fun i hi => (h.rd i hi).stay hs, fun hp => by
    obtain ⟨b, off, rfl, hc⟩ := h.at_ hp
    exact ⟨b, off, rfl, fun i hi => hs.cell (hc i hi)⟩⟩
theorem owns_stay {w w' : World} {base e n : Nat} {v : Value} {xs : List Value} (h : w.ownsRow base e 1 v n xs) (hs : Stay w w') : w'.ownsRow base e 1 v n xs := by
  refine ⟨h.1, ?_⟩
  rcases h.2 with h1 | ⟨g, cap, cur, h1, h2, h3, h4⟩
  · exact .inl h1
  · exact .inr ⟨g, cap, cur, h1, h2, hs _ _ _ _ h3, h4⟩
theorem Own.stay {w w' : World} {g n u : Nat} {f : Nat → K} (h : Own w g n u f) (hs : Stay w w') : Own w' g n u f := by
  refine h.of_block ?_
  obtain ⟨_, _, c, ⟨cur, hb, _⟩, _⟩ := h
  exact (hs _ _ _ _ hb).trans hb.symm
theorem Copied.stay {w w' : World} {B k : Nat} {v : Value} {T : Nat → Option Addr} {L U : Nat → Nat} {H : M} (h : Copied w B k v T L U H) (hs : Stay w w') : Copied w' B k v T L U H :=
  ⟨owns_stay h.out hs, fun i hi => owns_stay (h.row i hi) hs, h.apart⟩
/-- What a list of slices grows by leaves the map and all rows of bytes. -/
theorem Kept.grown {w w' : World} {b B k r n c0 c1 base m : Nat} {v : Value} {xs : List Value} (h : Kept w b B k r n c0 c1) (ho : w.ownsRow base 23 1 v m xs) (hg : w.grownBy w' v.ownBlock) : Kept w' b B k r n c0 c1 := by
  have key : ∀ x, v.ownBlock = some x → ∃ cur, w.heap[x]? = some (.cells cur 23 (0, 0)) := fun x hx => by
    rcases ho.2 with ⟨rfl, _⟩ | ⟨g, cap, cur, rfl, _, h3, _⟩
    · cases hx
    · cases hx; exact ⟨cur, h3⟩
  refine h.blocks (hg.block b h.lt fun e => ?_) fun g m f hr => hg.block g hr.lt fun e => ?_
  · obtain ⟨cur, hc⟩ := key b e.symm
    obtain ⟨D, ⟨es, clock, hm, _⟩, _⟩ := h
    rw [hm] at hc
    cases hc
  · obtain ⟨cur, hc⟩ := key g e.symm
    obtain ⟨cs, h1, _⟩ := hr
    rw [h1] at hc
    cases hc
theorem Keeps.grown2 {B T : Nat} {a w w' : World} {row : Option Nat} (h : Keeps B T a w) (hg : w.grownBy w' row) (hr : ∀ k, row = some k → a.heap.size ≤ k) : Keeps B T a w' :=
  ⟨hg.os.trans h.os, hg.tape.trans h.tape, hg.output.trans h.output, Nat.le_trans h.size hg.size, fun k hk hb => (hg.block k (Nat.lt_of_lt_of_le hk h.size) fun e => by have := hr k e.symm; omega).trans (h.block k hk hb)⟩
/-- One cell more, in a row of its own. -/
theorem Copied.push {w1 w2 : World} {B k : Nat} {v v' : Value} {T : Nat → Option Addr} {L U : Nat → Nat} {H : M} {ao : Option Addr} {l c : Nat} {o : Obj} {f : Nat → K} (h : Copied w1 B k v T L U H)
    (h1 : w1.ownsRow B 5 1 (.slice ao l c) l (cellsOf l f)) (hap : ∀ i a b, i < k → T i = some a → ao = some b → a.block ≠ b.block) (hg2 : (w1.alloc o).grownBy w2 v.ownBlock) (h2 : w2.ownsRow B 23 1 v' (k + 1) (rowsOf k T L U ++ [.slice ao l c])) :
    Copied w2 B (k + 1) v' (put k ao T) (put k l L) (put k c U) (put k f H) := by
  refine ⟨by rw [rowsOf_put]; exact h2, fun i hi => ?_, fun i j a b hi hj hne ea eb => ?_⟩
  · by_cases e : i = k
    · subst e
      rw [put_at, put_at, put_at, put_at]
      exact (h1.alloc o).kept hg2 (owns_apart' h1 h.out)
    · rw [put_ne _ _ e, put_ne _ _ e, put_ne _ _ e, put_ne _ _ e]
      have r := h.row i (by omega)
      exact (r.alloc o).kept hg2 (owns_apart' r h.out)
  · by_cases e : i = k
    · subst e
      rw [put_at] at ea
      rw [put_ne _ _ (Ne.symm hne)] at eb
      exact (hap j b a (by omega) eb ea).symm
    · rw [put_ne _ _ e] at ea
      by_cases e' : j = k
      · subst e'
        rw [put_at] at eb
        exact hap i a b (by omega) ea eb
      · rw [put_ne _ _ e'] at eb
        exact h.apart i j a b (by omega) (by omega) hne ea eb
theorem Copied.old {w : World} {B k : Nat} {v : Value} {T : Nat → Option Addr} {L U : Nat → Nat} {H : M} (h : Copied w B k v T L U H) {i : Nat} {a : Addr} (hi : i < k) (e : T i = some a) : a.block < w.heap.size := ((h.row i hi).lt a.block (by rw [e]; rfl)).2
theorem Copied.start (w : World) (B : Nat) (T : Nat → Option Addr) (L U : Nat → Nat) (H : M) : Copied w B 0 (.slice none 0 0) T L U H :=
  ⟨World.ownsRow_nil _ _ _ _, fun i hi => absurd hi (Nat.not_lt_zero i), fun i _ _ _ hi => absurd hi (Nat.not_lt_zero i)⟩
theorem info23c : (Try.prog.info? 23).map (fun i => (i.zero, i.size, i.bytes)) = some (some (.slice none 0 0), 1, 24) := by kernel_rfl
/-- The parity cells. -/
def par (k : Nat) (D : M) : M := fun i => enc k D (k + i)
theorem lin_enc (k c : Nat) (D : M) : lin k (gen k c) D = enc k D c := rfl

set_option maxHeartbeats 2000000 in
set_option maxRecDepth 100000 in
theorem parity_any (w : World) (b B k r n m : Nat) (lo : Option Addr) (cl : Nat) (A : Nat → Option Addr) (C L : Nat → Nat) (D : M) (hk1 : 1 ≤ k) (hk : k ≤ 12) (hr : r ≤ 4) (hm1 : 1 ≤ m) (hm : m ≤ 65536) (hn : n ≤ 5000) (hB : B ≤ w.heap.size)
    (hkept : Kept w b B k r n 0 0) (hl : Lst w lo k A C L D) (hL : ∀ i, i < k → L i = m) :
    Calls Try.prog 25 #[.map (some b), .int .i64 (k : Int), .int .i64 (r : Int), .slice lo k cl] w fun e w' => ∃ ao cap T U, e = .returned (.slice ao r cap) ∧ Copied w' w.heap.size r (.slice ao r cap) T (fun _ => m) U (par k D) ∧ Kept w' b B k r (n + 12 * r) 0 0 ∧ Keeps b (b + 1) w w' := by
  obtain ⟨j0, hj, hj0, hj1, hj2⟩ := info_parts info23c
  have HK : Hid (Kept w b B k r n 0 0) := hkept
  have HL : Hid (Lst w lo k A C L D) := hl
  have HLL : Hid (∀ i, i < k → L i = m) := hL
  clear hkept hl hL
  go_enter Try.func25, Try.ntmps25
  go_wp2
  go_loopw [9, 12] (fun v x wr => ∃ j : Nat, j ≤ r ∧ x = .int .i64 j ∧ (∃ ao cap, v = .slice ao j cap) ∧ Hid (∃ T U, Copied wr w.heap.size j v T (fun _ => m) U (par k D)) ∧ Hid (Kept wr b B k r (n + 12 * j) 0 0) ∧ Hid (Keeps b (b + 1) w wr)) (fun _ x _ => r - (intOf x).toNat)
  case atStart => exact ⟨0, Nat.zero_le _, rfl, ⟨none, 0, rfl⟩, ⟨fun _ => none, fun _ => 0, Copied.start _ _ _ _ _ _⟩, HK.out, Keeps.refl _ _ _⟩
  case round =>
    obtain ⟨j, hjr, rfl, ⟨ao, cap, rfl⟩, hcop, hkept, hkeep⟩ := hrel
    by_cases hlt : j < r
    · obtain ⟨T, U, hcp⟩ := hcop.out
      have HCP : Hid (Copied wr w.heap.size j (.slice ao j cap) T (fun _ => m) U (par k D)) := hcp
      have hws := hkeep.out.size
      have HR := row_any wr b B k r (n + 12 * j) (k + j) hk1 hk hr (by omega) (by omega) (by omega) hkept.out
      unfold key at HR
      rw [Int.natCast_add] at HR
      have HRR : Hid (Calls Try.prog 29 #[.map (some b), .agg #[.int .i64 (k : Int), .int .i64 (r : Int), .int .i64 ((k : Int) + (j : Int))]] wr (RowOf wr b B k r (n + 12 * j) (k + j))) := HR
      obtain ⟨XS, hXS⟩ : ∃ X, X = rowsOf j T (fun _ => m) U := ⟨_, rfl⟩
      have HXS : Hid (rowsOf j T (fun _ => m) U = XS) := hXS.symm
      have HST : Hid (Stay w wr) := HK.out.stay hkeep.out
      clear hcop hcp hXS HR
      go_wp2_with (first
        | (go_at_call 29; refine HRR.out.mono ?_; rintro e w1 ⟨g, u, rfl, hg, ho, hk1', hke1⟩
           have S1 : Hid (Stay wr w1) := hkept.out.stay hke1
           have HS := sum_any w1 (some ⟨g, 0, none⟩) lo k u cl m (gen k (k + j)) A C L D hk1 (by omega) hm1 hm ho.rd (HL.out.stay (HST.out.trans S1.out)) HLL.out
           have HSS : Hid (Calls Try.prog 37 #[.slice (some ⟨g, 0, none⟩) k u, .slice lo k cl] w1 fun e w' => ∃ g, e = .returned (.slice (some ⟨g, 0, none⟩) m m) ∧ w1.heap.size ≤ g ∧ Own w' g m m (lin k (gen k (k + j)) D) ∧ Below w1.heap.size w1 w') := HS
           have HK1 : Hid (Kept w1 b B k r (n + 12 * j + 12) 0 0) := hk1'
           have HE1 : Hid (Keeps b (b + 1) wr w1) := hke1
           clear hg ho hk1' hke1 HS HRR)
        | (go_at_call 37; refine HSS.out.mono ?_; rintro e w2 ⟨g2, rfl, hg2, ho2, hb2⟩
           have HO2 : Hid (Own w2 g2 m m (lin k (gen k (k + j)) D)) := ho2
           have HB2 : Hid (Below w1.heap.size w1 w2) := hb2
           have HC2 : Hid (Copied w2 w.heap.size j (.slice ao j cap) T (fun _ => m) U (par k D)) := HCP.out.stay (S1.out.trans (Stay.of_below hb2))
           have HOV : Hid (w2.ownsRow w.heap.size 23 1 (.slice ao j cap) j XS) := (by rw [← HXS.out]; exact HC2.out.out)
           have hs2 : w.heap.size ≤ w2.heap.size := Nat.le_trans hws (Nat.le_trans HE1.out.size hb2.size)
           clear ho2 hb2 HSS)
        | (at_builtin; refine wpList_append_lies _ (by rfl) (.tmp 15) (.tmp 26) 24 (by rfl) w.heap.size 23 j0 (.slice none 0 0) 1 24 Try.underlying24 hj hj0 hj1 hj2 (by rfl) (by decide) (.slice ao j cap) j XS (by rfl) (HOV.out.alloc _) ⟨w2.heap.size, 0, none⟩ 1 1 [.slice (some ⟨g2, 0, none⟩) m m] (by rfl) (by rfl) (World.news_of_block (heap_alloc_new w2 _)) (by simp [Value.oneCell']) (by decide) (by unfold maxLen; omega) (by omega) (by simp; omega) (w2.heap.size + 1) (by simp) ?_; intro g3 cap3 w3 hown3 hgrow3 _ _))
      have HC3 : Hid (∃ T U, Copied w3 w.heap.size (j + 1) (.slice (some ⟨g3, 0, none⟩) (j + 1) cap3) T (fun _ => m) U (par k D)) := by
        have hs1 : w.heap.size ≤ w1.heap.size := Nat.le_trans hws HE1.out.size
        have hp := HC2.out.push (owns_base (own_owns HO2.out) (by omega)) (fun i a b hi ea eb => by
          have := (HCP.out.stay S1.out).old hi ea
          cases eb
          show a.block ≠ g2
          omega) hgrow3 (by rw [HXS.out]; exact hown3)
        exact ⟨_, _, hp.congr (fun _ _ => rfl) (fun i _ => put_self j i (fun _ => m)) (fun _ _ => rfl) (fun i _ => put_self j i (par k D))⟩
      have HK3 : Hid (Kept w3 b B k r (n + 12 * (j + 1)) 0 0) := (((HK1.out.below HB2.out).below ((Below.refl _ _).alloc (Nat.le_refl _) _)).grown (HOV.out.alloc _) hgrow3).mono (by omega)
      have HE3 : Hid (Keeps b (b + 1) w w3) := (((hkeep.out.trans HE1.out).trans (Keeps.of_below HB2.out)).alloc _).grown2 hgrow3 (fun q hq => (HOV.out.lt q hq).1)
      clear hown3 hgrow3
      go_roundw
      case rel => exact ⟨j + 1, by omega, by go_num, ⟨_, _, rfl⟩, HC3, HK3, HE3⟩
      case measure => simp [intOf]; omega
    · obtain rfl : j = r := by omega
      go_wp2
      go_ret
      obtain ⟨T, U, hcp⟩ := hcop.out
      exact ⟨ao, cap, T, U, rfl, hcp, hkept.out, hkeep.out⟩
end Go.Proofs.Ythkikocacbbhkaa
