import Derived.Test.YtngcdlodcdgcaaaGreatZk48
import Derived.Test.YtngcdlodcdgcaaaGreatZk49
namespace Go.Proofs.YtngcdlodcdgcaaaGreat
open Go.RowKit
theorem leaf_any {k r c q : Int} {N W Q S n : Nat} {F : Nat -> List UInt8} (hp : Par k r c q N W 0) (hck : Im.Ck k r c q n F 0 N Q S) (w : World) (lo : Option Addr) (cl : Nat) (hcl : n <= cl) (A : Nat -> Option Addr) (C : Nat -> Nat) (hl : Im.Lst w lo n A C F) (o v : Int) (lf m : Nat) (hm : m = min (lea W) lf) :
    Calls Tryz.prog 43 #[.agg #[.int .i64 k, .int .i64 r, .int .i64 c, .int .i64 q, .slice lo n cl], .agg #[.int .i64 o, .int .i64 v], .int .i64 (lf : Int)] w (De.AnsR w (erLf k c q N W Q F o v m) m (De.rdR (dat k c N Q F o v) 0) (De.rdV (dat k c N Q F o v) 0)) := by
  unfold erLf
  by_cases ho : 0 <= o /\ o < (Q : Int)
  · rw [if_pos ho]
    have hR : Im.Rww k r c q n F o 0 N (Im.rowF Q o.toNat F) := ⟨0, N, Q, S, hck, .inl ⟨rfl, ho.1, ho.2, rfl, rfl, rfl⟩⟩
    have hW : k.toNat * c.toNat = W := by
      rcases hp with ⟨hm, hW, _⟩ | ⟨_, _, _, h0⟩
      · obtain ⟨h1, h2, h3, h4, h5, h6, h7, h8, h9⟩ := may_true hm
        have e1 : k = (k.toNat : Int) := by omega
        have e2 : c = (c.toNat : Int) := by omega
        rw [e1, e2, <- Int.natCast_mul] at hW
        exact (Int.ofNat.inj hW).symm
      · exact absurd h0 (by decide)
    refine leaf_go hp w lo n cl o v (lf : Int) (erSt k c N Q F o v) m (by rw [hm]; split <;> omega) (Im.rowF Q o.toNat F) (dat k c N Q F o v) (fun u hu => Im.Row_any hR lo cl hcl A C u (hl.below hu)) (fun u ro A' C' hr => ?_) _ rfl
    have h := Read_any hp u ro N N A' (gL Q F o.toNat) C' (gF Q F o.toNat) hr 1 v (erSt k c N Q F o v) rfl
    rw [hW] at h
    exact h
  · rw [if_neg ho]
    have hR : Im.Rww k r c q n F o 2 0 (fun _ => []) := ⟨0, N, Q, S, hck, .inr ⟨⟨rfl, rfl⟩, .inr ⟨rfl, ho, rfl⟩⟩⟩
    exact leaf_bad w lo n cl 0 o v (lf : Int) 2 (by decide) (fun _ => []) (fun u hu => Im.Row_any hR lo cl hcl A C u (hl.below hu)) m _ _
theorem erV2_zero {a b : Int} (h : erV2 a b = 0) : a = 0 /\ b = 0 := by
  unfold erV2 at h
  by_cases e : a = 0
  · rw [if_pos e] at h; exact ⟨e, h⟩
  · rw [if_neg e] at h; exact absurd h e
theorem dE_ok {k c q : Int} {N W Q : Nat} {F : Nat -> List UInt8} {o : Nat} (h : dE k c q N W Q F o = 0) : De.okD W q ((nm (dW k c N Q F o) 0 4 : Nat) : Int) ((nm (dW k c N Q F o) 4 1 : Nat) : Int) (nm (dW k c N Q F o) 5 2) (De.rdR (dW k c N Q F o) 7) (De.rdV (dW k c N Q F o) 7) = true := by
  unfold dE erCR at h
  by_cases h1 : erOL (erR 0 N c N (gL Q F o)) (wnB k N c (gL Q F o) (gF Q F o)) = 0
  · rw [if_pos h1] at h
    have h2 := (erV2_zero h).2
    unfold De.erB at h2
    rw [if_pos rfl, if_pos rfl] at h2
    by_cases hd : De.isD W q (wnD k N c (gL Q F o) (gF Q F o)) = true
    · exact (De.isD_true hd).1
    · rw [if_neg hd] at h2; exact absurd h2 (by decide)
  · rw [if_neg h1] at h; exact absurd h h1
theorem wide_of {k r c q : Int} {N W : Nat} (hp : Par k r c q N W 0) : may k r c q = true /\ 32 <= W /\ W <= 768 := by
  rcases hp with ⟨hm, hW, _⟩ | ⟨_, _, _, h0⟩
  · obtain ⟨h1, h2, h3, h4, h5, h6, h7, h8, h9⟩ := may_true hm
    have := may_wide h1 h2 h5 h6
    exact ⟨hm, by omega, by omega⟩
  · exact absurd h0 (by decide)
theorem okD_nums {W : Nat} {q A D : Int} {M : Nat} {R V : Nat -> Int} (hW : 32 <= W) (hW2 : W <= 768) (h : De.okD W q A D M R V = true) : M <= 126 /\ up A.toNat W <= 1024 /\ (D = 0 -> lvs W (up A.toNat W) = 0 /\ M = up A.toNat W) /\ (D ≠ 0 -> lvs W (up A.toNat W) = M /\ M = up (up A.toNat W) (lea W) /\ 0 < M) := by
  obtain ⟨h1, h2, h3, h4, h5⟩ := De.okD_true h
  have hl := lea_ge hW
  have hA : A.toNat <= mst W := by omega
  have h6 := De.cntD_few hW hA
  have h7 := dir_le hW2
  have h8 : up A.toNat W <= 1024 := up_le (by have := mst_le W; have : 1024 * 32 <= 1024 * W := Nat.mul_le_mul_left _ hW; omega) (by omega)
  refine ⟨by omega, h8, fun e => ?_, fun e => ?_⟩
  · have e1 : De.dpt W (up A.toNat W) = 0 := by omega
    unfold De.dpt at e1
    have e2 : lvs W (up A.toNat W) = 0 := by omega
    refine ⟨e2, ?_⟩
    rw [h4]; unfold De.cntD; rw [if_pos e2]
  · have e1 : De.dpt W (up A.toNat W) ≠ 0 := by omega
    unfold De.dpt at e1
    have e2 : lvs W (up A.toNat W) ≠ 0 := by omega
    have e3 : M = lvs W (up A.toNat W) := by rw [h4]; unfold De.cntD; rw [if_neg e2]
    refine ⟨e3.symm, ?_, by omega⟩
    rw [e3]
    unfold lvs at e2 ⊢
    split at e2
    · exact absurd rfl e2
    · rename_i h9; rw [if_neg h9]
theorem okD_made {k r c q A D : Int} {N W M : Nat} {R V : Nat -> Int} (hp : Par k r c q N W 0) (h : De.okD W q A D M R V = true) : De.Made k r c q A W (up A.toNat W) (min (lvs W (up A.toNat W)) 1) (lvs W (up A.toNat W)) (1 + lvs W (up A.toNat W) + up A.toNat W) 0 := by
  obtain ⟨h1, h2, _⟩ := De.okD_true h
  exact .inl ⟨(wide_of hp).1, h1, h2, rfl, rfl, rfl, rfl, rfl⟩
theorem lfN_lt {W s i : Nat} (hW : 32 <= W) (h : i < up s (lea W)) : i * lea W < s := by
  have hl := lea_ge hW
  have h1 := up_less (a := s) (b := lea W) (by omega) (by omega)
  have h2 : i * lea W <= (up s (lea W) - 1) * lea W := Nat.mul_le_mul_right _ (by omega)
  omega
theorem Object_any {k r c q : Int} {n : Nat} {F : Nat -> List UInt8} {o E A D : Int} {M : Nat} {R V : Nat -> Int} {y : Int} {l s : Nat} {SR SV : Nat -> Int} (h : Ob k r c q n F o E A D M R V y l s SR SV) (w : World) (lo : Option Addr) (cl : Nat) (hcl : n <= cl) (A0 : Nat -> Option Addr) (C0 : Nat -> Nat) (hl : Im.Lst w lo n A0 C0 F) :
    Calls Tryz.prog 27 #[.agg #[.int .i64 k, .int .i64 r, .int .i64 c, .int .i64 q, .slice lo n cl], .int .i64 o] w (AnsO w E A D M R V y l s SR SV) := by
  rcases h with ⟨hE, n', G, hR⟩ | ⟨N, W, Q, S, hp, hck, ho, ⟨hA, hD, hM, hRR, hVV, hy⟩, hc⟩
  · exact obj_e1 w lo n cl n' o E hE G (fun u hu => Im.Row_any hR lo cl hcl A0 C0 u (hl.below hu)) _ _ _ _ _ _ _ _ _ _
  · have hR : Im.Rww k r c q n F o 0 N (Im.rowF Q o.toNat F) := ⟨0, N, Q, S, hck, .inl ⟨rfl, ho.1, ho.2, rfl, rfl, rfl⟩⟩
    have HA := fun u (hu : Below w.heap.size w u) => Im.Row_any hR lo cl hcl A0 C0 u (hl.below hu)
    have HRd := fun u ro A' C' (hr : Rw u ro N A' (fun j => (Im.rowF Q o.toNat F j).length) C' (fun j t => (Im.rowF Q o.toNat F j).getD t 0)) => cRead_any hp u ro N N A' (gL Q F o.toNat) C' (gF Q F o.toNat) hr (dE k c q N W Q F o.toNat) rfl
    have hok : dE k c q N W Q F o.toNat = 0 -> De.okD W q A D M R V = true := fun e => by rw [hA, hD, hM, hRR, hVV]; exact dE_ok e
    obtain ⟨_, hW1, hW2⟩ := wide_of hp
    have HR2 := fun u ro A' C' hr => show Calls Tryz.prog 40 #[.agg #[.int .i64 k, .int .i64 r, .int .i64 c, .int .i64 q], .slice ro N N] u (AnsRd u (dE k c q N W Q F o.toNat) y A D M R V) by rw [hA, hD, hM, hRR, hVV, hy]; exact HRd u ro A' C' hr
    clear HRd hRR hVV hy hD hM hA
    rcases hc with ⟨hne, hE⟩ | ⟨h0, hc⟩
    · rw [hE]
      exact obj_e2 w lo n cl N o _ hne (Im.rowF Q o.toNat F) A D M R V y HA HR2 _ _ _ _
    · rw [h0] at HR2
      obtain ⟨hM1, hs1, hz, hnz⟩ := okD_nums hW1 hW2 (hok h0)
      rcases hc with ⟨rfl, rfl, rfl, rfl, rfl, rfl⟩ | ⟨hD, hE, rfl, rfl, rfl, rfl⟩
      · exact obj_d0 w lo n cl N o (Im.rowF Q o.toNat F) A _ (by omega) _ _ y HA HR2
      · obtain ⟨h1, h2, h3⟩ := hnz hD
        have hmade := okD_made hp (hok h0)
        have hlea := lea_ge hW1
        rw [hE]
        refine obj_d1 w lo n cl N o (Im.rowF Q o.toNat F) A D hD l (by omega) R V y (up A.toNat W) (lea W) (by omega) (fun i => erLf k c q N W Q F (R i) (V i) (lfN W (up A.toNat W) i)) (fun i => dat k c N Q F (R i) (V i)) _ _ HA HR2 (fun u => De.Stripes_any hp hmade u) (fun i hi u hu => leaf_any hp hck u lo cl hcl A0 C0 (hl.below hu) (R i) (V i) _ _ rfl) (fun i hi => lfN_lt hW1 (by omega)) ?_ (fun i hi t ht => ?_)
        · show _ <= _
          rw [h2]; exact up_room (by omega)
        · have ht2 : t < lea W := by omega
          have e1 : (i * lea W + t) / lea W = i := by rw [Nat.mul_comm, Nat.mul_add_div (by omega), Nat.div_eq_of_lt ht2, Nat.add_zero]
          have e2 : (i * lea W + t) % lea W = t := by rw [Nat.mul_comm, Nat.mul_add_mod, Nat.mod_eq_of_lt ht2]
          unfold sgR sgV
          rw [e1, e2]; exact ⟨rfl, rfl⟩
theorem ob_good {k r c q : Int} {n : Nat} {F : Nat -> List UInt8} {o A D : Int} {M : Nat} {R V : Nat -> Int} {y : Int} {l s : Nat} {SR SV : Nat -> Int} (h : Ob k r c q n F o 0 A D M R V y l s SR SV) :
    ∃ N W, Par k r c q N W 0 /\ De.Made k r c q A W s (min l 1) l (1 + l + s) 0 /\ l <= 126 /\ s <= 1024 := by
  rcases h with ⟨hE, _⟩ | ⟨N, W, Q, S, hp, hck, ho, ⟨hA, hD, hM, hRR, hVV, hy⟩, ⟨hne, hE⟩ | ⟨h0, hc⟩⟩
  · exact absurd rfl hE
  · exact absurd hE.symm hne
  · have hok : De.okD W q A D M R V = true := by rw [hA, hD, hM, hRR, hVV]; exact dE_ok h0
    obtain ⟨_, hW1, hW2⟩ := wide_of hp
    obtain ⟨hM1, hs1, hz, hnz⟩ := okD_nums hW1 hW2 hok
    have hmade := okD_made hp hok
    clear hRR hVV hy hD hM hA
    rcases hc with ⟨hD, _, rfl, rfl, _, _⟩ | ⟨hD, _, rfl, rfl, _, _⟩
    · obtain ⟨h1, h2⟩ := hz hD
      rw [h1, <- h2] at hmade
      exact ⟨N, W, hp, hmade, by omega, by omega⟩
    · obtain ⟨h1, h2, h3⟩ := hnz hD
      rw [h1] at hmade
      exact ⟨N, W, hp, hmade, by omega, hs1⟩
end Go.Proofs.YtngcdlodcdgcaaaGreat
