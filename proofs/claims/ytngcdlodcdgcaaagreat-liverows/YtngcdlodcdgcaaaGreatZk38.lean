import Derived.Deep.DeepMust
import Derived.Test.YtngcdlodcdgcaaaGreatZk37
namespace Go.Proofs.YtngcdlodcdgcaaaGreat
open Go.RowKit
def Cap (wz v : World) (gp : Nat) (ty e sz m : Nat) (xs : List Value) (Y : Nat -> Prop) : Prop :=
  ∃ ao cap, At wz v gp #[.slice ao m cap] ty /\ v.ownsRow wz.heap.size e sz (.slice ao m cap) m xs /\ ∀ g, Y g ↔ (g = gp \/ ∃ a : Addr, ao = some a /\ g = a.block)
theorem owns_at {w : World} {B e sz n cap : Nat} {ao : Option Addr} {xs : List Value} (h : w.ownsRow B e sz (.slice ao n cap) n xs) {a : Addr} (ha : ao = some a) : B <= a.block /\ a.block < w.heap.size /\ ∃ cur, w.heap[a.block]? = some (.cells cur e (0, 0)) := by
  rcases h.2 with ⟨h1, _⟩ | ⟨g, cap', cur, h1, h2, h3, _⟩
  · cases h1; cases ha
  · cases h1; cases ha; exact ⟨h2, (Array.getElem?_eq_some_iff.1 h3).1, cur, h3⟩
theorem owns_blocks {w w' : World} {B e sz n cap : Nat} {ao : Option Addr} {xs : List Value} (h : w.ownsRow B e sz (.slice ao n cap) n xs) (hb : ∀ a : Addr, ao = some a -> w'.heap[a.block]? = w.heap[a.block]?) : w'.ownsRow B e sz (.slice ao n cap) n xs := by
  refine ⟨h.1, ?_⟩
  rcases h.2 with h1 | ⟨g, cap', cur, h1, h2, h3, h4⟩
  · exact .inl h1
  · cases h1; exact .inr ⟨g, cap, cur, rfl, h2, (hb ⟨g, 0, none⟩ rfl).trans h3, h4⟩
theorem owns_below {w w' : World} {B e sz n cap : Nat} {ao : Option Addr} {xs : List Value} (h : w.ownsRow B e sz (.slice ao n cap) n xs) (hb : Below w.heap.size w w') : w'.ownsRow B e sz (.slice ao n cap) n xs :=
  owns_blocks h fun _ ha => hb.block _ (owns_at h ha).2.1
theorem Cap.below {wz v v' : World} {gp ty e sz m : Nat} {xs : List Value} {Y : Nat -> Prop} (h : Cap wz v gp ty e sz m xs Y) (hb : Below v.heap.size v v') : Cap wz v' gp ty e sz m xs Y := by
  obtain ⟨ao, cap, hA, hO, hY⟩ := h
  exact ⟨ao, cap, hA.below hb, owns_below hO hb, hY⟩
theorem Cap.at_ {wz v : World} {gp ty e sz m : Nat} {xs : List Value} {Y : Nat -> Prop} (h : Cap wz v gp ty e sz m xs Y) (g : Nat) (hg : Y g) : wz.heap.size <= g /\ g < v.heap.size := by
  obtain ⟨ao, cap, hA, hO, hY⟩ := h
  rcases (hY g).1 hg with rfl | ⟨a, ha, rfl⟩
  · exact ⟨hA.1, hA.lt⟩
  · exact ⟨(owns_at hO ha).1, (owns_at hO ha).2.1⟩
theorem cap_grow {wz v v1 w' : World} {gp ty e sz m cap g cap' : Nat} {ao : Option Addr} {xs xs' : List Value} {Y : Nat -> Prop} (hty : ty ≠ e) (hA : At wz v gp #[.slice ao m cap] ty) (hO : v.ownsRow wz.heap.size e sz (.slice ao m cap) m xs) (hY : ∀ g, Y g ↔ (g = gp \/ ∃ a : Addr, ao = some a /\ g = a.block))
    (hb : Below v.heap.size v v1) (hg : v1.grownBy w' (Value.slice ao m cap).ownBlock) (ho : w'.ownsRow wz.heap.size e sz (.slice (some ⟨g, 0, none⟩) (m + 1) cap') (m + 1) xs') (hgg : (Value.slice ao m cap).ownBlock = some g \/ g = v1.heap.size) :
    Cap wz (w'.setCell ⟨gp, 0, none⟩ (.slice (some ⟨g, 0, none⟩) (m + 1) cap')) gp ty e sz (m + 1) xs' (fun x => x = gp \/ x = g) /\ Only Y v (w'.setCell ⟨gp, 0, none⟩ (.slice (some ⟨g, 0, none⟩) (m + 1) cap')) /\ ∀ x, (x = gp \/ x = g) -> Y x \/ v.heap.size <= x := by
  have hs := hb.size
  have hlt := hA.lt
  have hne : ∀ a : Addr, ao = some a -> a.block ≠ gp := fun a ha e1 => by
    obtain ⟨_, _, cur, hc⟩ := owns_at hO ha
    rw [e1, hA.2] at hc
    cases hc
    exact hty rfl
  have hgne : g ≠ gp := by
    rcases hgg with e1 | e1
    · cases ao with
      | none => cases e1
      | some a => cases e1; exact hne a rfl
    · omega
  have hA' : At wz w' gp #[.slice ao m cap] ty := ⟨hA.1, by
    rw [hg.block gp (by omega) (fun e1 => by
      cases ao with
      | none => cases e1
      | some a => cases e1; exact hne a rfl rfl), hb.block gp hlt]
    exact hA.2⟩
  refine ⟨⟨some ⟨g, 0, none⟩, cap', ?_, ?_, fun x => ?_⟩, ⟨?_, ?_, ?_, ?_, fun x hx hy => ?_⟩, fun x hx => ?_⟩
  · exact hA'.set 0 _
  · exact owns_blocks ho fun a ha => by cases ha; exact Below.heap_setCell _ _ _ _ (by simpa using hgne)
  · constructor
    · rintro (h | h)
      · exact .inl h
      · exact .inr ⟨_, rfl, h⟩
    · rintro (h | ⟨a, ha, h⟩)
      · exact .inl h
      · cases ha; exact .inr h
  · exact hg.os.trans hb.os
  · exact hg.tape.trans hb.tape
  · exact hg.output.trans hb.output
  · have := hg.size; simp [World.setCell]; omega
  · have hxgp : x ≠ gp := fun e1 => hy ((hY x).2 (.inl e1))
    rw [Below.heap_setCell _ _ _ _ (by simpa using hxgp), hg.block x (by omega) (fun e1 => by
      cases ao with
      | none => cases e1
      | some a => cases e1; exact hy ((hY _).2 (.inr ⟨a, rfl, rfl⟩))), hb.block x hx]
  · rcases hx with h | h
    · exact .inl ((hY x).2 (.inl h))
    · subst h
      rcases hgg with e1 | e1
      · cases ao with
        | none => cases e1
        | some a => cases e1; exact .inl ((hY _).2 (.inr ⟨a, rfl, rfl⟩))
      · exact .inr (by omega)
end Go.Proofs.YtngcdlodcdgcaaaGreat
namespace Go.Proofs.YtngcdlodcdgcaaaGreat
open Go.RowKit
def zv (N : Nat) (c : Int) (L : Nat -> Nat) (F : Nat -> Nat -> UInt8) (kd : UInt8) (v : Int) (i : Nat) : Sl := zz (yy N c L F) kd (tS (yy N c L F) kd v (2 * N)) i
theorem cap_new {wz v v' : World} {gp ty e sz : Nat} (hb : Below wz.heap.size wz v) (hv : v' = v.alloc (.cells #[.slice none 0 0] ty)) (hg : v.heap.size = gp) : Cap wz v' gp ty e sz 0 [] (fun x => x = gp) := by
  refine ⟨none, 0, by rw [<- hg]; exact at_made hb hv, World.ownsRow_nil _ _ _ _, fun g => ⟨fun h => .inl h, fun h => ?_⟩⟩
  rcases h with h | ⟨a, ha, _⟩
  · exact h
  · cases ha
end Go.Proofs.YtngcdlodcdgcaaaGreat
namespace Go.Proofs.YtngcdlodcdgcaaaGreat
open Go.RowKit
def toK (u : UInt8) : Cod.K := ⟨u.toNat, u.toNat_lt⟩
def bK (a : Cod.K) : UInt8 := UInt8.ofNat (Cod.K.n a)
theorem bK_n (a : Cod.K) : (bK a).toNat = Cod.K.n a := by
  have := Cod.K.lt a
  unfold bK; simp; omega
theorem rd_toK {w : World} {ao : Option Addr} {n : Nat} {F : Nat -> UInt8} (h : RdU w ao n F) : Cod.Rd w ao n (fun j => toK (F j)) := h
theorem cells_bK (n : Nat) (f : Nat -> Cod.K) : Cod.cellsOf n f = byF n (fun j => bK (f j)) := by
  unfold Cod.cellsOf byF
  refine List.map_congr_left fun i _ => ?_
  rw [bK_n]
def Lz (z : Nat -> Sl) (i : Nat) : Nat := (z i).dn
def Hz (z : Nat -> Sl) (i j : Nat) : Cod.K := toK ((z i).D j)
def cD (k : Nat) (z : Nat -> Sl) (N : Nat) : Cod.M := Cod.dec k (Cod.sel (Lz z) N) (Hz z)
def cH (k : Nat) (z : Nat -> Sl) (N : Nat) (i b : Nat) : UInt8 := bK (Cod.enc k (cD k z N) i b)
theorem rows_push (d : Nat) (T : Nat -> Option Addr) (L U : Nat -> Nat) (b : Option Addr) (u : Nat) : Cod.rowsOf (d + 1) (Cod.put d b T) L (Cod.put d u U) = Cod.rowsOf d T L U ++ [.slice b (L d) u] := by
  unfold Cod.rowsOf
  rw [List.range_succ, List.map_append, List.map_cons, List.map_nil, Cod.put_at, Cod.put_at]
  congr 1
  refine List.map_congr_left fun i hi => ?_
  have := List.mem_range.1 hi
  rw [Cod.put_ne _ _ (by omega), Cod.put_ne _ _ (by omega)]
theorem cap_apart {wz v : World} {gp ty e sz m b t : Nat} {xs : List Value} {Y : Nat -> Prop} {cur : Array Value} {f : Nat × Nat} (h : Cap wz v gp ty e sz m xs Y) (hb : v.heap[b]? = some (.cells cur t f)) (h1 : ty ≠ t) (h2 : e ≠ t) : ¬ Y b := fun hy => by
  obtain ⟨ao, cap, hA, hO, hY⟩ := h
  rcases (hY b).1 hy with rfl | ⟨a, ha, rfl⟩
  · rw [hA.2] at hb; cases hb; exact h1 rfl
  · obtain ⟨_, _, cur', hc⟩ := owns_at hO ha
    rw [hc] at hb; cases hb; exact h2 rfl
theorem owu_stay {wz v v' : World} {B n cap gp ty e sz m : Nat} {ao : Option Addr} {F : Nat -> UInt8} {xs : List Value} {Y : Nat -> Prop} (h : OwU B v ao n cap F) (hc : Cap wz v gp ty e sz m xs Y) (h1 : ty ≠ 5) (h2 : e ≠ 5) (ho : Only Y v v') : OwU B v' ao n cap F :=
  owns_blocks h fun a ha => by
    obtain ⟨_, hl, cur, hh⟩ := owns_at h ha
    exact ho.block _ hl (cap_apart hc hh h1 h2)
def Thr (wz : World) (gp : Nat) (z : Nat -> Sl) (d : Nat) (v : World) (Y : Nat -> Prop) : Prop :=
  ∃ T U, Cap wz v gp 24 74 1 d (Cod.rowsOf d T (Lz z) U) Y /\ ∀ i, i < d -> OwU wz.heap.size v (T i) (Lz z i) (U i) (z i).D
set_option maxHeartbeats 2000000 in
set_option maxRecDepth 100000 in
theorem cells1_any (wz v : World) (gp d B : Nat) (z : Nat -> Sl) (Y : Nat -> Prop) (x0 x1 x2 : Value) (hd : d < 16) (ao : Option Addr) (ca : Nat) (bo : Option Addr) (cb : Nat) (h : Thr wz gp z d v Y) (hG : OwU B v bo (z d).dn cb (z d).D) (hB : ∀ g, Y g -> g < B) :
    Calls Tryz.prog 132 #[x2, .agg #[x0, x1], slv (z d) ao ca bo cb, .pointer (some ⟨gp, 0, none⟩)] v fun e v' => e = .returned (.tuple #[]) /\ ∃ Y', Thr wz gp z (d + 1) v' Y' /\ Only Y v v' /\ ∀ g, Y' g -> Y g \/ v.heap.size <= g := by
  unfold slv
  obtain ⟨T, U, ⟨oo, cc, hA, hO, hY⟩, hT⟩ := h
  have hsz : wz.heap.size <= v.heap.size := Nat.le_trans hA.1 (Nat.le_of_lt hA.lt)
  have hBz : wz.heap.size <= B := by have := hB gp ((hY gp).2 (.inl rfl)); have := hA.1; omega
  obtain ⟨v0, hv0⟩ : ∃ v0, v0 = v.alloc (.cells #[x0, x1] 127) := ⟨_, rfl⟩
  obtain ⟨v1, hv1⟩ : ∃ v1, v1 = v0.alloc (.cells #[.int .u8 (((z d).kd.toNat : Nat) : Int), .int .i64 (z d).ix, .int .i64 (z d).ce, .int .i64 (z d).st, .slice ao (z d).vn ca, .slice bo (z d).dn cb] 83) := ⟨_, rfl⟩
  have b0 : Below v.heap.size v v0 := by rw [hv0]; exact below_alloc _ _
  have b1 : Below v.heap.size v v1 := by rw [hv1]; exact below_then b0 (below_alloc _ _)
  have z0 : v0.heap.size = v.heap.size + 1 := by rw [hv0]; simp
  obtain ⟨xs, hxs⟩ : ∃ xs, xs = Cod.rowsOf d T (Lz z) U := ⟨_, rfl⟩
  have HX : Hid (xs ++ [.slice bo (z d).dn cb] = Cod.rowsOf (d + 1) (Cod.put d bo T) (Lz z) (Cod.put d cb U)) := by show _ = _; rw [rows_push, hxs]; rfl
  rw [<- hxs] at hO
  obtain ⟨i0, hi, hi0, hi1, hi2⟩ := info_parts Cod.info23c
  have HA : Hid (At wz v gp #[.slice oo d cc] 24) := hA
  have HO : Hid (v.ownsRow wz.heap.size 74 1 (.slice oo d cc) d xs) := hO
  have HY : Hid (∀ g, Y g ↔ (g = gp \/ ∃ a : Addr, oo = some a /\ g = a.block)) := hY
  have HB : Hid (Below v.heap.size v v1) := b1
  have HZ1 : Hid (v1.heap.size = v.heap.size + 1 + 1) := by show _ = _; rw [hv1]; simp [z0]
  have HT : Hid (∀ i, i < d -> OwU wz.heap.size v (T i) (Lz z i) (U i) (z i).D) := hT
  have HG : Hid (OwU wz.heap.size v bo (z d).dn cb (z d).D) := hG.mono hBz
  have sg := fun o o' => ((hA.alloc o).alloc o').cell (i := 0) rfl
  clear hA hO hY b0 b1 z0 hT hG hB hBz hxs
  go_enter Tryz.func132, Tryz.ntmps132
  go_wp2_with (at_builtin; rw [<- hv0, <- hv1]; clear hv0 hv1; refine wpList_append_lies _ (by rfl) (.tmp 7) (.tmp 10) 24 (by rfl) wz.heap.size 74 i0 (.slice none 0 0) 1 24 Tryz.underlying24 hi hi0 hi1 hi2 (by rfl) (by decide) (.slice oo d cc) d xs (by rfl) (owns_below HO.out (below_then HB.out (below_alloc _ _))) ⟨v.heap.size + 1 + 1, 0, none⟩ 1 1 [.slice bo (z d).dn cb] (by rfl) (by rfl) (by rw [<- HZ1.out]; exact World.news_of_block (heap_alloc_new v1 _)) (by simp [Value.oneCell']) (by decide) (by unfold maxLen; omega) (by omega) (by have := HB.out.size; simp; omega) (v1.heap.size + 1) (by simp) ?_; intro g5 cap5 w5 hown5 hgrow5 hgg5 _
               have hall := cap_grow (by decide) HA.out HO.out HY.out (below_then HB.out (below_alloc v1 _)) hgrow5 hown5 (by rcases hgg5 with a | a; exact .inl a; exact .inr (by rw [a]; simp))
               have hg1 := hgrow5.block gp (by have := HA.out.lt; have := HB.out.size; simp; omega) (fun e1 => by
                 cases oo with
                 | none => cases e1
                 | some a =>
                   cases e1
                   obtain ⟨_, _, cur, hc⟩ := owns_at HO.out rfl
                   rw [HA.out.2] at hc
                   cases hc)
               have hAt5 : At wz w5 gp #[.slice oo d cc] 24 := ⟨HA.out.1, hg1.trans (((HA.out.below HB.out).alloc _).2)⟩
               have t0 := hAt5.cell (i := 0) rfl
               have tf := hAt5.free
               have HALL : Hid _ := hall
               clear hall hg1 hAt5 hown5 hgrow5 hgg5)
  refine bodyPost_end (results_none rfl _ _ _) rfl ?_
  refine ⟨rfl, _, ⟨Cod.put d bo T, Cod.put d cb U, by rw [<- HX.out]; exact HALL.out.1, fun i hi => ?_⟩, HALL.out.2.1, HALL.out.2.2⟩
  have hcap : Cap wz v gp 24 74 1 d xs Y := ⟨oo, cc, HA.out, HO.out, HY.out⟩
  by_cases e : i = d
  · subst e
    rw [Cod.put_at, Cod.put_at]
    exact owu_stay HG.out hcap (by decide) (by decide) HALL.out.2.1
  · rw [Cod.put_ne _ _ e, Cod.put_ne _ _ e]
    exact owu_stay (HT.out i (by omega)) hcap (by decide) (by decide) HALL.out.2.1
end Go.Proofs.YtngcdlodcdgcaaaGreat
