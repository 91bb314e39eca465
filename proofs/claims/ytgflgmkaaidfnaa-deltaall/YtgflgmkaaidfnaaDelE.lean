/- What All and Parity of the program answer. -/
import Derived.Test.YtgflgmkaaidfnaaDelD
namespace Go.Proofs.Ytgflgmkaaidfnaa
open Go.RowKit

theorem crow_good (w : World) (k r i : Nat) (hk1 : 1 ≤ k) (hk : k ≤ 12) (hr : r ≤ 4) (hi : i < r) :
    Calls Try.prog 23 #[.int .i64 (k : Int), .int .i64 (r : Int), .int .i64 ((k : Int) + (i : Int))] w fun e w' => ∃ g u, e = .returned (.tuple #[.slice (some ⟨g, 0, none⟩) k u, .int .i64 0]) ∧ w.heap.size ≤ g ∧ Own w' g k u (gen k (k + i)) ∧ Below w.heap.size w w' := by
  have h := Row_any w (k : Int) (r : Int) ((k : Int) + (i : Int))
  have e1 : okRow (k : Int) (r : Int) ((k : Int) + (i : Int)) = true := by
    unfold okRow
    rw [Bool.and_eq_true]
    exact ⟨decide_eq_true (by omega), decide_eq_true (by omega)⟩
  rw [e1, Int.toNat_natCast, show ((k : Int) + (i : Int)).toNat = k + i by omega] at h
  refine h.mono ?_
  rintro e w' ⟨ao, cap, rfl, hs, hb⟩
  rcases hs with ⟨_, h0, _⟩ | ⟨g, rfl, hg, _, ho⟩
  · exact absurd (show k = 0 from h0) (by omega)
  · exact ⟨g, cap, rfl, hg, ho, hb⟩
theorem owns_drew {w : World} {base e size n : Nat} {v : Value} {xs : List Value} (h : w.ownsRow base e size v n xs) : w.drew.ownsRow base e size v n xs := h
theorem news_drew (w : World) (xs : Array Value) (e : TypeId) : ∀ (j : Nat) u, xs.toList[j]? = some u → (w.alloc (.cells xs e)).drew.cell? ((⟨w.heap.size, 0, none⟩ : Addr).add j) = some u := fun j u h => news_at rfl xs e j u h
theorem step_append_lies {P : Program} {ops : Array Oper} {o : Oper} {a : Act} {w : World} {K : Act → World → Prop} {Q : Exit → Act → World → Prop} {E : Prop} (hgd : o.guard = none) (s x : Operand) (t : TypeId)
    (ho : o.op = .call { callee := .builtin .append, args := #[s, x], argTypes := #[t, t] })
    (base : Nat) (e : TypeId) (i : TypeInfo) (z : Value) (size bytes : Nat) (ht : P.underlying t = some (.slice e)) (hi : P.info? e = some i) (hz : i.zero = some z)
    (hsize : i.size = size) (hby : i.bytes = bytes) (hzs : z.cells.size = size) (hsz : 0 < size)
    (v : Value) (n : Nat) (xs : List Value) (hs : a.eval s = v) (hown : w.ownsRow base e size v n xs)
    (ad : Addr) (m c : Nat) (news : List Value) (hx : a.eval x = .slice (some ad) m c) (hl : news.length = m * size) (hnews : ∀ j u, news[j]? = some u → w.cell? (ad.add j) = some u) (h1 : ∀ u ∈ news, u.oneCell' = true)
    (hm : 0 < m) (h63 : n + m ≤ maxLen) (hbytes : (n + m) * bytes ≤ 140737488355328) (hbase : base ≤ w.heap.size) (H : Nat) (hH : w.heap.size = H)
    (h : ∀ g cap w', w'.ownsRow base e size (.slice (some ⟨g, 0, none⟩) (n + m) cap) (n + m) (xs ++ news) → w.grownBy w' v.ownBlock → (v.ownBlock = some g ∨ g = H) → g < w'.heap.size → K (a.put o.dst (.slice (some ⟨g, 0, none⟩) (n + m) cap)) w') :
    if Region.wanted o (yielded ops a.tmps) = true then Oper.wp P o a w K Q else E := by
  have hw : Region.wanted o (yielded ops a.tmps) = true := by simp [Region.wanted, hgd]
  rw [if_pos hw]
  exact wp_append_lies w s x t ho base e i z size bytes ht hi hz hsize hby hzs hsz v n xs hs hown ad m c news hx hl hnews h1 hm h63 hbytes hbase H hH h
theorem info45d : (Try.prog.info? 45).map (fun i => (i.zero, i.size, i.bytes)) = some (some (.agg #[.int .u8 0, .slice none 0 0]), 2, 32) := by kernel_rfl

set_option maxHeartbeats 2000000 in
set_option maxRecDepth 100000 in
theorem added_any (w : World) (b1 b2 b3 b4 k r i n cc dc : Nat) (co qo : Option Addr) (R : Nat → Int) (DA : Nat → Option Addr) (DC DL : Nat → Nat) (D : M)
    (h1 : w.cell? ⟨b1, 0, none⟩ = some (.int .i64 (k : Int))) (h2 : w.cell? ⟨b2, 0, none⟩ = some (.int .i64 (r : Int))) (h3 : w.cell? ⟨b3, 0, none⟩ = some (.slice co n cc)) (h4 : w.cell? ⟨b4, 0, none⟩ = some (.slice qo n dc))
    (hk1 : 1 ≤ k) (hk : k ≤ 12) (hr : r ≤ 4) (hi : i < r) (hn : n ≤ 12) (hc : RdI w co n R) (hR : ∀ j, j < n → 0 ≤ R j ∧ R j < (k : Int)) (hd : Lst w qo n DA DC DL D) :
    Calls Try.prog 38 #[.int .i64 (i : Int), .pointer (some ⟨b1, 0, none⟩), .pointer (some ⟨b2, 0, none⟩), .pointer (some ⟨b3, 0, none⟩), .pointer (some ⟨b4, 0, none⟩)] w fun e w' => ∃ ao c, e = .returned (.slice ao n c) ∧ w'.ownsRow w.heap.size 45 2 (.slice ao n c) n (termsOf (fac k R i) DA DL DC n) ∧ Below w.heap.size w w' := by
  obtain ⟨j0, hj, hj0, hj1, hj2⟩ := info_parts info45d
  have HROW := crow_good w k r i hk1 hk hr hi
  have HC : Hid (RdI w co n R) := hc
  have HR : Hid (∀ j, j < n → 0 ≤ R j ∧ R j < (k : Int)) := hR
  have HD : Hid (Lst w qo n DA DC DL D) := hd
  have H4 : Hid (w.cell? ⟨b4, 0, none⟩ = some (.slice qo n dc)) := h4
  have H3 : Hid (w.cell? ⟨b3, 0, none⟩ = some (.slice co n cc)) := h3
  clear hc hR hd h3 h4
  go_enter Try.func38, Try.ntmps38
  go_wp2_with (go_at_call 23; refine HROW.mono ?_; rintro e w1 ⟨g, u, rfl, hg, ho, hb⟩; have d3 := held H3.out hb)
  have HO : Hid (Own w1 g k u (gen k (k + i))) := ho
  have HB : Hid (Below w.heap.size w w1) := hb
  have hw1 := hb.size
  clear ho hb HROW d3
  go_loopw [9, 23] (fun v x wr => ∃ j : Nat, j ≤ n ∧ x = .int .i64 j ∧ (∃ ao c, v = .slice ao j c) ∧ Hid (wr.ownsRow w1.heap.size 45 2 v j (termsOf (fac k R i) DA DL DC j)) ∧ Hid (Below w1.heap.size w1 wr)) (fun _ x _ => n - (intOf x).toNat)
  case atStart => exact ⟨0, Nat.zero_le _, rfl, ⟨none, 0, rfl⟩, World.ownsRow_nil _ _ _ _, Below.refl _ _⟩
  case round =>
    obtain ⟨j, hjn, rfl, ⟨ao, c, rfl⟩, hown, hbel⟩ := hrel
    have bb : Below w.heap.size w wr := below_step HB.out hbel.out hw1
    by_cases hlt : j < n
    · obtain ⟨bc, oc, rfl, hcc⟩ := HC.out (by omega)
      obtain ⟨bd, od, rfl, hcd⟩ := HD.out.at_ (by omega)
      have d1 := held (hcc j hlt) bb
      have d2 := held (hcd j hlt) bb
      have d4 := held H4.out bb
      have E2 : Hid (w1.cell? ⟨b4, 0, none⟩ = some (.slice (some ⟨bd, od, none⟩) n dc)) := held H4.out HB.out
      have E3 : Hid (w1.cell? ⟨bd, od + j, none⟩ = some (.slice (DA j) (DL j) (DC j))) := held (hcd j hlt) HB.out
      obtain ⟨x1, x2⟩ := HR.out j hlt
      obtain ⟨q, hq⟩ := Int.eq_ofNat_of_zero_le x1
      have d5 := (HO.out.below hbel.out).cell (i := q) (by omega)
      have E1 : w1.cell? ⟨g, q, none⟩ = some (.int .u8 ((gen k (k + i) q).n : Int)) := HO.out.cell (by omega)
      have HF : Hid (gen k (k + i) q = fac k R i j) := by show _ = _; unfold fac; rw [hq, Int.toNat_natCast]
      rw [hq] at d1
      have x3 : (0 : Int) ≤ (q : Int) := by omega
      have x4 : (q : Int) < (k : Int) := by omega
      obtain ⟨fx, hfx⟩ : ∃ fx, fx = gen k (k + i) q := ⟨_, rfl⟩
      rw [← hfx] at d5 E1
      replace E1 : Hid (w1.cell? ⟨g, q, none⟩ = some (.int .u8 (fx.n : Int))) := E1
      have HFX : Hid (fx = fac k R i j) := by show _ = _; rw [hfx]; exact HF.out
      clear hcc hcd hq x1 x2 hfx HF
      have i1 : (0 : Int) ≤ (j : Int) := by omega
      have i2 : (j : Int) < (n : Int) := by omega
      have hws := hbel.out.size
      have hwb := bb.size
      obtain ⟨XS, hXS⟩ : ∃ X, X = termsOf (fac k R i) DA DL DC j := ⟨_, rfl⟩
      have HXS : Hid (termsOf (fac k R i) DA DL DC j = XS) := hXS.symm
      have HV : Hid (wr.ownsRow w1.heap.size 45 2 (.slice ao j c) j XS) := by rw [hXS]; exact hown.out
      clear hXS hown bb
      have k1 : ∀ o, (wr.alloc o).cell? ⟨g, q, none⟩ = some (.int .u8 (fx.n : Int)) := fun o => held d5 (below_alloc wr o)
      have k2 : ∀ o, (wr.alloc o).cell? ⟨b4, 0, none⟩ = some (.slice (some ⟨bd, od, none⟩) n dc) := fun o => held d4 (below_alloc wr o)
      have k3 : ∀ o, (wr.alloc o).cell? ⟨bd, od + j, none⟩ = some (.slice (DA j) (DL j) (DC j)) := fun o => held d2 (below_alloc wr o)
      go_wp2
      go_region_held3 (fun w' => w'.cell? ⟨g, q, none⟩ = some (.int .u8 (fx.n : Int)) ∧ w'.cell? ⟨b4, 0, none⟩ = some (.slice (some ⟨bd, od, none⟩) n dc) ∧ w'.cell? ⟨bd, od + j, none⟩ = some (.slice (DA j) (DL j) (DC j))) (go_keep) ((refine step_append_lies (by rfl) (.tmp 28) (.tmp 38) 51 (by rfl) w1.heap.size 45 j0 (.agg #[.int .u8 0, .slice none 0 0]) 2 32 Try.underlying51 hj hj0 hj1 hj2 (by rfl) (by decide) (.slice ao j c) j XS (by simp [Act.eval]) (owns_drew (HV.out.alloc _)) ⟨wr.heap.size, 0, none⟩ 1 1 [.int .u8 (fx.n : Int), .slice (DA j) (DL j) (DC j)] (by simp [Act.eval]) (by rfl) (news_drew wr #[.int .u8 (fx.n : Int), .slice (DA j) (DL j) (DC j)] 45) (by simp [Value.oneCell']) (by decide) (by unfold maxLen; omega) (by omega) (by show _ ≤ (wr.alloc _).heap.size; simp; omega) (wr.heap.size + 1) (by show (wr.alloc _).heap.size = _; simp) ?_; intro g2 cap2 w2 hown2 hgrow2 _ _; have HB2 : Hid (Below w1.heap.size w1 w2) := ((hbel.out.alloc (by omega) _).drew).grown hgrow2 (by show _ ≤ (wr.alloc _).heap.size; simp; omega) (fun r hr => (HV.out.lt r hr).1); have s1 := held E1.out HB2.out; have s2 := held E2.out HB2.out; have s3 := held E3.out HB2.out))
      have HV2 : Hid (w2.ownsRow w1.heap.size 45 2 (.slice (some ⟨g2, 0, none⟩) (j + 1) cap2) (j + 1) (termsOf (fac k R i) DA DL DC (j + 1))) := by rw [termsOf, HXS.out, ← HFX.out]; exact hown2
      clear hown2 hgrow2 s1 s2 s3 k1 k2 k3
      go_wp2
      go_roundw
      case rel => exact ⟨j + 1, by omega, by go_num, ⟨_, _, rfl⟩, HV2, HB2⟩
      case measure => simp [intOf]; omega
    · obtain rfl : j = n := by omega
      go_wp2
      go_ret
      exact ⟨ao, c, rfl, owns_base hown.out hw1, bb⟩
theorem prod_any (w : World) (k r : Int) (co qo : Option Addr) (n cc dl dc : Nat) :
    Calls Try.prog 26 #[.int .i64 k, .int .i64 r, .slice co n cc, .slice qo dl dc] w fun e w' => ∃ b1 b2 b3 b4, e = .returned (.func (.func 38) #[] #[.pointer (some ⟨b1, 0, none⟩), .pointer (some ⟨b2, 0, none⟩), .pointer (some ⟨b3, 0, none⟩), .pointer (some ⟨b4, 0, none⟩)]) ∧
      w'.cell? ⟨b1, 0, none⟩ = some (.int .i64 k) ∧ w'.cell? ⟨b2, 0, none⟩ = some (.int .i64 r) ∧ w'.cell? ⟨b3, 0, none⟩ = some (.slice co n cc) ∧ w'.cell? ⟨b4, 0, none⟩ = some (.slice qo dl dc) ∧ Below w.heap.size w w' := by
  go_enter Try.func26, Try.ntmps26
  go_wp2
  go_ret
  have bx : ∀ (w : World) (v : Value) (e : TypeId), (w.alloc (.cells #[v] e)).cell? ⟨w.heap.size, 0, none⟩ = some v := fun w v e => by rw [cell_of_row _ _ _ _ _ _ (heap_alloc_new w _)]; rfl
  have up : ∀ (w : World) (o : Obj) (a : Addr) (v : Value), w.cell? a = some v → (w.alloc o).cell? a = some v := fun w o a v h => held h (below_alloc w o)
  have sz : ∀ (w : World) (o : Obj), (w.alloc o).heap.size = w.heap.size + 1 := fun w o => by simp
  refine ⟨_, _, _, _, rfl, up _ _ _ _ (up _ _ _ _ (up _ _ _ _ (bx _ _ _))), up _ _ _ _ (up _ _ _ _ ?_), up _ _ _ _ ?_, ?_, ((below_2 w _ _).alloc (by simp; omega) _).alloc (by simp; omega) _⟩
  · rw [← sz w (.cells #[.int .i64 k] 3)]; exact bx _ _ _
  · rw [← sz w (.cells #[.int .i64 k] 3), ← sz _ (.cells #[.int .i64 r] 3)]; exact bx _ _ _
  · rw [← sz w (.cells #[.int .i64 k] 3), ← sz _ (.cells #[.int .i64 r] 3), ← sz _ (.cells #[.slice co n cc] 31)]; exact bx _ _ _
end Go.Proofs.Ytgflgmkaaidfnaa
