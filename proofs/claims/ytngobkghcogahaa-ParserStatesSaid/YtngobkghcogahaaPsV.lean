/- Parser: the reference's Rest; no condition but sizes. -/
import Derived.Test.YtngobkghcogahaaGlC
namespace Go.Proofs.Ytngobkghcogahaa
open Go.RowKit
set_option linter.unusedVariables false
set_option maxRecDepth 100000 in
theorem rrest_odd (w : World) (a : Option Addr) (len c pos : Nat) (hp : ¬ pos % 8 = 0) :
    Calls Try.prog 83 #[.agg #[.slice a len c, .int .i64 pos]] w (RetQ (.tuple #[.slice none 0 0, .int .i64 10]) w none fun _ => True) := by
  have hq : ((pos : Int) % 8 != 0) = true := by rw [bne_iff_ne]; omega
  go_enter Try.func83, Try.ntmps83
  go_wp2
  go_ret2
  exact ⟨rfl, gb_alloc _ _ _, trivial⟩
theorem rrest_none (w : World) :
    Calls Try.prog 83 #[.agg #[.slice none 0 0, .int .i64 0]] w (RetSh [] w w.heap.size) := by
  obtain ⟨i0, hi, hz0, hz1, hz2⟩ := info_parts infoU8
  have HI := Lib.hid hi
  clear hi hz0 hz1 hz2
  go_enter Try.func83, Try.ntmps83
  go_wp2_with (at_builtin; refine wpList_append_own_none rfl _ _ 37 rfl w.heap.size 5 i0 1 Try.underlying37 HI.out _ _ _ rfl (World.ownsRow_nil _ _ _ _) rfl ?_)
  go_ret2
  exact ⟨_, rfl, gb_alloc _ _ _, World.ownsRow_nil _ _ _ _, fun _ => rfl⟩
set_option maxRecDepth 100000 in
theorem rrest_even (w : World) (base g c : Nat) (bs : List Int) (pos : Nat) (h : w.ownsRow base 5 1 (.slice (some ⟨g, 0, none⟩) bs.length c) bs.length (bs.map (Value.int .u8))) (hn : bs.length ≤ 60000) (q : Nat) (hp : pos = 8 * q) (hq : q ≤ bs.length) :
    Calls Try.prog 83 #[.agg #[.slice (some ⟨g, 0, none⟩) bs.length c, .int .i64 pos]] w (RetSh (bs.drop q) w w.heap.size) := by
  obtain ⟨i0, hi, hz0, hz1, hz2⟩ := info_parts infoU8
  have hq8 : ((pos : Int) % 8 != 0) = false := by rw [bne_eq_false_iff_eq]; omega
  have HC := cut_cells (q := q) (h.alloc (.cells #[.slice (some ⟨g, 0, none⟩) bs.length c, .int .i64 pos] 122))
  have hcap := own_cap h
  have HI := Lib.hid hi
  subst hp
  have wq : ((8 * q : Nat) : Int) / 8 = (q : Int) := by omega
  have i1 : (q : Int) ≤ bs.length := by omega
  by_cases hcq : c = q
  · have hql : q = bs.length := by omega
    subst hcq
    subst hql
    clear HC h hi
    go_enter Try.func83, Try.ntmps83
    go_wp2_with (at_builtin; refine wpList_append_own _ rfl _ _ 37 rfl w.heap.size 5 i0 (.int .u8 0) 1 1 Try.underlying37 HI.out hz0 hz1 hz2 rfl (by decide) _ 0 [] rfl (World.ownsRow_nil _ _ _ _) ⟨g, 0, none⟩ 0 0 [] rfl rfl (by intro j u hj; simp at hj) (by intro u hu; cases hu) (by unfold maxLen; omega) (by omega) (by simp) ?_)
    intro v' w1 hown hg hiff
    have HO := Lib.hid hown
    have HF := Lib.hid hiff
    have HG := Lib.hid hg
    clear hown hiff hg HI hz0 hz1 hz2
    go_wp2
    go_ret2
    refine ⟨v', rfl, gb_trans (gb_alloc _ _ _) HG.out, ?_, ?_⟩
    · have k := HO.out
      simpa using k
    · intro e
      have k := HF.out
      first | exact k.2 rfl | simpa using k
  · rw [if_neg hcq] at HC
    have HC2 := Lib.hid HC
    clear HC h hi
    go_enter Try.func83, Try.ntmps83
    go_wp2_with (at_builtin; refine wpList_append_own _ rfl _ _ 37 rfl w.heap.size 5 i0 (.int .u8 0) 1 1 Try.underlying37 HI.out hz0 hz1 hz2 rfl (by decide) _ 0 [] rfl (World.ownsRow_nil _ _ _ _) ⟨g, q, none⟩ (bs.length - q) (c - q) ((bs.drop q).map (Value.int .u8)) rfl ?c1 HC2.out (ints_one _ _) ?c3 ?c4 ?c5 ?_)
    case c1 => simp
    case c3 => unfold maxLen; omega
    case c4 => omega
    case c5 => simp
    intro v' w1 hown hg hiff
    have HO := Lib.hid hown
    have HF := Lib.hid hiff
    have HG := Lib.hid hg
    clear hown hiff hg HC2 HI hz0 hz1 hz2
    go_wp2
    go_ret2
    refine ⟨v', rfl, gb_trans (gb_alloc _ _ _) HG.out, ?_, ?_⟩
    · have k := HO.out
      simpa using k
    · intro e
      have k := HF.out
      have e2 := congrArg List.length e
      simp at e2
      refine k.2 ?_
      first | omega | exact ⟨rfl, by omega⟩ | simpa using e2
set_option maxRecDepth 100000 in
theorem rrest_any (w : World) (base : Nat) (a : Option Addr) (c : Nat) (bs : List Int) (pos : Nat) (h : w.ownsRow base 5 1 (.slice a bs.length c) bs.length (bs.map (Value.int .u8))) (hnil : bs = [] → a = none) (hn : bs.length ≤ 60000) (hp : pos ≤ 8 * bs.length) :
    Calls Try.prog 83 #[.agg #[.slice a bs.length c, .int .i64 pos]] w (RetEh (restR bs pos).1 (restR bs pos).2 w) := by
  unfold restR
  by_cases hm : pos % 8 = 0
  · rw [if_pos hm]
    by_cases hb : bs = []
    · subst hb
      obtain rfl : pos = 0 := by simpa using hp
      have hv := hnil rfl
      subst hv
      have hc : c = 0 := by
        rcases h.2 with ⟨k, _⟩ | ⟨g, cap, cur, k, _⟩
        · injection k
        · injection k with k; cases k
      subst hc
      refine (rrest_none w).mono ?_
      rintro e w' ⟨v', he, g, o, _⟩
      exact ⟨v', he, g, by simpa using o⟩
    · have hne : 0 < bs.length := List.length_pos_iff.2 hb
      obtain ⟨g, c2, hs⟩ := own_head h hne
      injection hs with hs1 _ hs2
      subst hs1; subst hs2
      refine (rrest_even w base g c bs pos h hn (pos / 8) (by omega) (by omega)).mono ?_
      rintro e w' ⟨v', he, g, o, _⟩
      exact ⟨v', he, g, o⟩
  · rw [if_neg hm]
    refine (rrest_odd w a bs.length c pos hm).mono ?_
    rintro e w' ⟨rfl, g, _⟩
    exact ⟨_, rfl, g, World.ownsRow_nil _ _ _ _⟩
end Go.Proofs.Ytngobkghcogahaa
