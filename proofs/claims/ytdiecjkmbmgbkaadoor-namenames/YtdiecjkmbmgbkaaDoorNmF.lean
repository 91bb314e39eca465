/- The document's thing: the byte that is shown at a place. -/
import Derived.Test.YtdiecjkmbmgbkaaDoorNmE
namespace Go.Proofs.YtdiecjkmbmgbkaaDoor
open Go.RowKit

theorem u8_lt {a b : UInt8} (h : a < b) : (a.toNat : Int) < (b.toNat : Int) := by have := UInt8.lt_iff_toNat_lt.1 h; omega
theorem byte_at (l : Nm) (i : Nat) (h : i < l.length) (p : i < (ByteArray.mk l.toArray).size) : (ByteArray.mk l.toArray)[i]'p = l[i]'h := rfl
theorem thg_hex (e f : UInt8) (r : Nm) : thg (92 :: 120 :: e :: f :: r) = if wth e < 16 ∧ wth f < 16 ∧ (wth e * 16 + wth f < 33 ∨ 126 < wth e * 16 + wth f) then (UInt8.ofNat (wth e * 16 + wth f), 4) else (0, 0) := rfl
theorem get_drop {l : Nm} {at_ : Nat} {c : UInt8} {r : Nm} (h : l.drop at_ = c :: r) : ∃ k : at_ < l.length, l[at_]'k = c := by
  have hk : at_ < l.length := by
    have := congrArg List.length h
    simp at this; omega
  refine ⟨hk, ?_⟩
  rw [List.drop_eq_getElem_cons hk] at h
  exact (List.cons.inj h).1
theorem drop_next {l : Nm} {at_ : Nat} {c : UInt8} {r : Nm} (h : l.drop at_ = c :: r) : l.drop (at_ + 1) = r := by
  rw [← List.drop_drop, h]; rfl
set_option maxHeartbeats 1000000 in
set_option maxRecDepth 100000 in
theorem thing_any (l : Nm) (n : Nat) (hn : n < l.length) (hl : l.length ≤ 100000) (w : World) : Calls Tryd.prog 40 #[.string ⟨l.toArray⟩, .int .i64 (n : Int)] w fun e w' => e = .returned (.tuple #[.int .u8 ((thg (l.drop n)).1.toNat : Int), .int .i64 (((thg (l.drop n)).2 : Nat) : Int)]) ∧ ∃ q, w' = w.drewN q := by
  have hs := str_size l
  have i0 : (0 : Int) ≤ (n : Int) := by omega
  have i1 : (n : Int) < ((ByteArray.mk l.toArray).size : Int) := by omega
  have k0 : n < (ByteArray.mk l.toArray).size := by omega
  obtain ⟨c, hc⟩ : ∃ c, c = (ByteArray.mk l.toArray)[n]'k0 := ⟨_, rfl⟩
  obtain ⟨r, hd⟩ : ∃ r, l.drop n = c :: r := ⟨_, by rw [List.drop_eq_getElem_cons hn, hc]; rfl⟩
  have hm := c.toNat_lt
  have e0 : ((ByteArray.mk l.toArray)[n]'k0) = c := hc.symm
  clear hc
  rw [hd]
  by_cases h1 : c = 34 ∨ c < 33 ∨ 126 < c
  · rw [show thg (c :: r) = (0, 0) from if_pos h1]
    have hb : (c.toNat : Int) = 34 ∨ (c.toNat : Int) < 33 ∨ 126 < (c.toNat : Int) := by
      rcases h1 with rfl | h | h
      · exact .inl rfl
      · exact .inr (.inl (u8_lt h))
      · exact .inr (.inr (u8_lt h))
    go_enter Tryd.func40, Tryd.ntmps40
    go_wp2_with (fail)
    all_goals (
      go_ret2
      exact ⟨rfl, 0, rfl⟩)
  have h34 : c ≠ 34 := fun e => h1 (.inl e)
  have e34 : ((c.toNat : Int) == 34) = false := u8_ne h34
  have q1 : (33 : Int) ≤ c.toNat := u8_le (by have : ¬ c < 33 := fun e => h1 (.inr (.inl e)); simpa using this : (33 : UInt8) ≤ c)
  have q2 : (c.toNat : Int) ≤ 126 := u8_le (by have : ¬ 126 < c := fun e => h1 (.inr (.inr e)); simpa using this : c ≤ 126)
  by_cases h92 : c = 92
  · subst h92
    clear h1 e34 q1 q2 h34 hm
    cases r with
    | nil =>
      rw [show thg [92] = (0, 0) from rfl]
      have hl1 : (l.length : Int) = n + 1 := by have := congrArg List.length hd; simp at this; omega
      go_enter Tryd.func40, Tryd.ntmps40
      go_wp2_with (fail)
      go_ret2
      exact ⟨rfl, 0, rfl⟩
    | cons d r =>
      have hd1 := drop_next hd
      obtain ⟨k1, e1⟩ := get_drop hd1
      have k1' : n + 1 < (ByteArray.mk l.toArray).size := by omega
      have e1' : ((ByteArray.mk l.toArray)[n + 1]'k1') = d := e1
      have j1 : (n : Int) + 1 < (l.length : Int) := by omega
      clear e1
      by_cases hq : d = 34 ∨ d = 92
      · rw [show thg (92 :: d :: r) = (d, 2) by rcases hq with rfl | rfl <;> rfl]
        rcases hq with rfl | rfl
        all_goals (
          go_enter Tryd.func40, Tryd.ntmps40
          go_wp2_with (fail)
          go_ret2
          exact ⟨rfl, 0, rfl⟩)
      · have d34 : ((d.toNat : Int) == 34) = false := u8_ne fun e => hq (.inl e)
        have d92 : ((d.toNat : Int) == 92) = false := u8_ne fun e => hq (.inr e)
        by_cases h120 : d = 120
        · subst h120
          clear d34 d92
          by_cases h3 : r.length < 2
          · rw [show thg (92 :: 120 :: r) = (0, 0) by
              match r, h3 with
              | [], _ => rfl
              | [_], _ => rfl
              | _ :: _ :: _, h => exact absurd h (by simp)]
            have hl1 : (l.length : Int) ≤ n + 3 := by have := congrArg List.length hd; simp at this; omega
            go_enter Tryd.func40, Tryd.ntmps40
            go_wp2_with (fail)
            go_ret2
            exact ⟨rfl, 0, rfl⟩
          · obtain ⟨e, f, r, rfl⟩ : ∃ e f r', r = e :: f :: r' := by
              match r, h3 with
              | [], h => exact absurd (by simp) h
              | [_], h => exact absurd (by simp) h
              | e :: f :: r, _ => exact ⟨e, f, r, rfl⟩
            have hd2 := drop_next hd1
            have hd3 := drop_next hd2
            obtain ⟨k2, e2⟩ := get_drop hd2
            obtain ⟨k3, e3⟩ := get_drop hd3
            have k2' : n + 2 < (ByteArray.mk l.toArray).size := by omega
            have k3' : n + 3 < (ByteArray.mk l.toArray).size := by omega
            have e2' : ((ByteArray.mk l.toArray)[n + 2]'k2') = e := e2
            have e3' : ((ByteArray.mk l.toArray)[n + 3]'k3') = f := e3
            have j2 : (n : Int) + 2 < (l.length : Int) := by omega
            have j3 : (n : Int) + 3 < (l.length : Int) := by omega
            have HE : ∀ w, Calls Tryd.prog 56 #[.int .u8 (e.toNat : Int)] w _ := worth_any e
            have HF : ∀ w, Calls Tryd.prog 56 #[.int .u8 (f.toNat : Int)] w _ := worth_any f
            have e2'' : ((((ByteArray.mk l.toArray)[n + 2]'k2').toNat : Nat) : Int) = (e.toNat : Int) := by rw [e2']
            have e3'' : ((((ByteArray.mk l.toArray)[n + 3]'k3').toNat : Nat) : Int) = (f.toNat : Int) := by rw [e3']
            have hlt := thg_hex e f r
            obtain ⟨ve, hve⟩ : ∃ ve : Int, ve = (wth e : Int) := ⟨_, rfl⟩
            obtain ⟨vf, hvf⟩ : ∃ vf : Int, vf = (wth f : Int) := ⟨_, rfl⟩
            obtain ⟨me, hme⟩ : ∃ me : Int, me = (e.toNat : Int) := ⟨_, rfl⟩
            obtain ⟨mf, hmf⟩ : ∃ mf : Int, mf = (f.toNat : Int) := ⟨_, rfl⟩
            have g0 : 0 ≤ ve := by omega
            have g1 : 0 ≤ vf := by omega
            rw [← hve, ← hme] at HE
            rw [← hvf, ← hmf] at HF
            rw [← hme] at e2''
            rw [← hmf] at e3''
            rw [hlt]
            clear e2 e3 e2' e3' hd1 hd2 hd3 hlt hd h3 hq hme hmf
            by_cases hg : ve < 16 ∧ vf < 16
            · obtain ⟨ge, gf⟩ := hg
              by_cases hv : ve * 16 + vf < 33 ∨ 126 < ve * 16 + vf
              · rw [if_pos ⟨by omega, by omega, by omega⟩]
                have hof : (((UInt8.ofNat (wth e * 16 + wth f)).toNat : Nat) : Int) = ve * 16 + vf := by
                  rw [UInt8.toNat_ofNat']; omega
                rw [hof]
                clear hof hve hvf
                go_enter Tryd.func40, Tryd.ntmps40
                go_wp2_with (fail)
                refine (HE _).mono ?_
                rintro _ w1 ⟨rfl, rfl⟩
                go_wp2_with (fail)
                refine (HF _).mono ?_
                rintro _ w1 ⟨rfl, rfl⟩
                go_wp2_with (fail)
                go_quiet (first | (go_at_call_of 56 (Value.int .u8 me); exact Calls.quiet_of_same (HE _)) | (go_at_call_of 56 (Value.int .u8 mf); exact Calls.quiet_of_same (HF _)))
                go_wp2_with (fail)
                all_goals (
                  go_ret2
                  exact ⟨rfl, nq, rfl⟩)
              · rw [if_neg (fun h => hv (by omega))]
                have hv' : 33 ≤ ve * 16 + vf ∧ ve * 16 + vf ≤ 126 := by omega
                obtain ⟨v1, v2⟩ := hv'
                clear hv hve hvf
                go_enter Tryd.func40, Tryd.ntmps40
                go_wp2_with (fail)
                refine (HE _).mono ?_
                rintro _ w1 ⟨rfl, rfl⟩
                go_wp2_with (fail)
                refine (HF _).mono ?_
                rintro _ w1 ⟨rfl, rfl⟩
                go_wp2_with (fail)
                go_quiet (first | (go_at_call_of 56 (Value.int .u8 me); exact Calls.quiet_of_same (HE _)) | (go_at_call_of 56 (Value.int .u8 mf); exact Calls.quiet_of_same (HF _)))
                go_wp2_with (fail)
                all_goals (
                  go_ret2
                  exact ⟨rfl, nq, rfl⟩)
            · rw [if_neg (fun h => hg (by omega))]
              by_cases he : ve < 16
              · have hf : 16 ≤ vf := by omega
                clear hg hve hvf
                go_enter Tryd.func40, Tryd.ntmps40
                go_wp2_with (fail)
                refine (HE _).mono ?_
                rintro _ w1 ⟨rfl, rfl⟩
                go_wp2_with (fail)
                refine (HF _).mono ?_
                rintro _ w1 ⟨rfl, rfl⟩
                go_wp2_with (fail)
                go_ret2
                exact ⟨rfl, 0, rfl⟩
              · have he' : 16 ≤ ve := by omega
                clear hg hve hvf
                go_enter Tryd.func40, Tryd.ntmps40
                go_wp2_with (fail)
                refine (HE _).mono ?_
                rintro _ w1 ⟨rfl, rfl⟩
                go_wp2_with (fail)
                go_ret2
                exact ⟨rfl, 0, rfl⟩
        · rw [show thg (92 :: d :: r) = (0, 0) by simp [thg, h120]; exact ⟨fun e => hq (.inl e), fun e => hq (.inr e)⟩]
          have d120 : ((d.toNat : Int) == 120) = false := u8_ne h120
          go_enter Tryd.func40, Tryd.ntmps40
          go_wp2_with (fail)
          all_goals (
            go_ret2
            exact ⟨rfl, 0, rfl⟩)
  · rw [show thg (c :: r) = (c, 1) from (if_neg h1).trans (if_pos h92)]
    have e92 : ((c.toNat : Int) != 92) = true := by rw [bne]; rw [show ((c.toNat : Int) == 92) = false from u8_ne h92]; rfl
    go_enter Tryd.func40, Tryd.ntmps40
    go_wp2_with (fail)
    go_ret2
    exact ⟨rfl, 0, rfl⟩
end Go.Proofs.YtdiecjkmbmgbkaaDoor
