/- Several texts in one: RgA, RgB, RgC, RgD, RgE, RgF, RgN. -/
import Derived.Test.YtjhknmklejkknaaGxA
import Derived.Deep.RegionWith
import Derived.Deep.RegionHeld3
import Derived.Deep.CutRange
import Derived.Laws.ResultCell
import Derived.Laws.CopyOwn
import Derived.WalkMore
section
namespace Go.Proofs.Ytjhknmklejkknaa
open Go.RowKit
set_option linter.unusedVariables false
theorem rng_at {L : List Int} (h : ∀ x ∈ L, 0 ≤ x ∧ x < 4294967296) (j : Nat) : 0 ≤ L.getD j 0 ∧ L.getD j 0 < 4294967296 := by
  by_cases hj : j < L.length
  · rw [List.getD_eq_getElem?_getD, List.getElem?_eq_getElem hj]; exact h _ (List.getElem_mem _)
  · rw [List.getD_eq_getElem?_getD, List.getElem?_eq_none (by omega)]; exact ⟨Int.le_refl _, by decide⟩
theorem SU.slr {w : World} {a : Option Addr} {n c : Nat} {L : List Int} (h : SU w a n c L) : SlR w a n c (L.map (Value.int .u32)) :=
  ⟨by simp [h.len], h.nil, fun ad e j u hu => by
    have hj : j < L.length := by
      have := (List.getElem?_eq_some_iff.1 hu).1
      simpa using this
    rw [h.cells ad e j (by rw [← h.len]; exact hj), ← hu]
    simp [hj]⟩
/-- A row of numbers of the call's own. -/
def NU (w : World) (base : Nat) (V : Value) (L : List Int) : Prop := w.ownsRow base 58 1 V L.length (L.map (Value.int .u32))
theorem NU.keep0 {w w2 : World} {base : Nat} {V : Value} {L : List Int} (h : NU w base V L) (k : w.grownBy w2 none) : NU w2 base V L := own_keep0 h k
theorem nu_su {w : World} {base : Nat} {a : Option Addr} {n c : Nat} {L : List Int} (h : NU w base (.slice a n c) L) (hn : L.length = n) (hr : ∀ x ∈ L, 0 ≤ x ∧ x < 4294967296) : SU w a n c L := by
  subst hn
  have s := own_slr h
  exact ⟨rfl, s.2.1, own_cap h, fun ad e j hj => s.2.2 ad e j _ (by simp [hj]), hr⟩
theorem nu_shape {w : World} {base : Nat} {V : Value} {L : List Int} (h : NU w base V L) : ∃ a c, V = .slice a L.length c := own_shape h
def nilV : Value := .slice none 0 0
/-- Rows of the call's own, and the row of their heads. -/
structure OR (w : World) (base : Nat) (V : Value) (L : List (List Int)) (Vs : List Value) : Prop where
  out : w.ownsRow base 40 1 V L.length Vs
  own : ∀ x, x < L.length → NU w base (Vs.getD x nilV) (L.getD x [])
  dis : ∀ x y, x < L.length → y < L.length → x ≠ y → ∀ q, (Vs.getD x nilV).ownBlock = some q → (Vs.getD y nilV).ownBlock ≠ some q
  rng : ∀ l ∈ L, ∀ x ∈ l, 0 ≤ x ∧ x < 4294967296
theorem OR.nV {w : World} {base : Nat} {V : Value} {L : List (List Int)} {Vs : List Value} (h : OR w base V L Vs) : Vs.length = L.length := by simpa using h.out.1
theorem OR.keep0 {w w2 : World} {base : Nat} {V : Value} {L : List (List Int)} {Vs : List Value} (h : OR w base V L Vs) (k : w.grownBy w2 none) : OR w2 base V L Vs :=
  ⟨own_keep0 h.out k, fun x hx => (h.own x hx).keep0 k, h.dis, h.rng⟩
theorem OR.low {w : World} {base b2 : Nat} {V : Value} {L : List (List Int)} {Vs : List Value} (h : OR w base V L Vs) (hb : b2 ≤ base) : OR w b2 V L Vs :=
  ⟨own_low h.out hb, fun x hx => own_low (h.own x hx) hb, h.dis, h.rng⟩
theorem OR.shape {w : World} {base : Nat} {V : Value} {L : List (List Int)} {Vs : List Value} (h : OR w base V L Vs) : ∃ a c, V = .slice a L.length c := own_shape h.out
theorem rrng_at {L : List (List Int)} (h : ∀ l ∈ L, ∀ x ∈ l, 0 ≤ x ∧ x < 4294967296) (j : Nat) : ∀ x ∈ L.getD j [], 0 ≤ x ∧ x < 4294967296 := by
  intro x hx
  by_cases hj : j < L.length
  · rw [List.getD_eq_getElem?_getD, List.getElem?_eq_getElem hj] at hx; exact h _ (List.getElem_mem _) x hx
  · rw [List.getD_eq_getElem?_getD, List.getElem?_eq_none (by omega)] at hx; cases hx
theorem OR.sr {w : World} {base : Nat} {a : Option Addr} {n c : Nat} {L : List (List Int)} {Vs : List Value} (h : OR w base (.slice a n c) L Vs) (hn : L.length = n) : SR w a n c L := by
  subst hn
  have s := own_slr h.out
  refine ⟨rfl, s.2.1, own_cap h.out, fun ad e j hj => ?_⟩
  have hv : j < Vs.length := by rw [h.nV]; exact hj
  have o := h.own j hj
  obtain ⟨fa, fc, hs⟩ := nu_shape o
  have s2 := s.2.2 ad e j _ (List.getElem?_eq_getElem hv)
  have e2 : Vs[j] = Vs.getD j nilV := by simp [hv]
  rw [e2, hs] at s2
  rw [hs] at o
  exact ⟨fa, _, fc, s2, nu_su o rfl (rrng_at h.rng j)⟩
end Go.Proofs.Ytjhknmklejkknaa
end
section
namespace Go.Proofs.Ytjhknmklejkknaa
open Go.RowKit
set_option linter.unusedVariables false
theorem infoU32 : (Try.prog.info? 58).map (fun i => (i.zero, i.size, i.bytes)) = some (some (.int .u32 0), 1, 4) := by kernel_rfl
theorem infoRow : (Try.prog.info? 40).map (fun i => (i.zero, i.size, i.bytes)) = some (some (.slice none 0 0), 1, 24) := by kernel_rfl
theorem nu_ne {w : World} {base b2 : Nat} {V V2 : Value} {n : Nat} {xs : List Value} {L : List Int} (h : w.ownsRow base 40 1 V n xs) (o : NU w b2 V2 L) : ∀ g, V2.ownBlock = some g → V.ownBlock ≠ some g := by
  intro g hg hv
  rcases o.2 with ⟨rfl, _⟩ | ⟨g', cap, cur, rfl, _, hgg, _⟩
  · simp [Value.ownBlock] at hg
  · simp [Value.ownBlock] at hg
    subst hg
    exact own_ne h (show IsB w g' 58 cur from hgg) (by decide) hv
theorem getD_set_at {α : Type} (L : List α) (x : Nat) (v d : α) (h : x < L.length) : (L.set x v).getD x d = v := by simp [h]
theorem getD_set_off {α : Type} (L : List α) (x y : Nat) (v d : α) (h : y ≠ x) : (L.set x v).getD y d = L.getD y d := by simp [List.getD_eq_getElem?_getD, List.getElem?_set_ne (Ne.symm h)]
theorem rng_set {L : List (List Int)} (h : ∀ l ∈ L, ∀ x ∈ l, 0 ≤ x ∧ x < 4294967296) (j : Nat) (l : List Int) (hl : ∀ x ∈ l, 0 ≤ x ∧ x < 4294967296) : ∀ m ∈ L.set j l, ∀ x ∈ m, 0 ≤ x ∧ x < 4294967296 := by
  intro m hm
  rcases List.mem_or_eq_of_mem_set hm with h1 | rfl
  · exact h m h1
  · exact hl
/-- A head is stored: the row behind it is a new one. -/
theorem OR.put {w w2 : World} {base g n c : Nat} {L : List (List Int)} {Vs : List Value} (h : OR w base (.slice (some ⟨g, 0, none⟩) n c) L Vs) (hn : L.length = n) (x : Nat) (hx : x < n) (V' : Value) (l : List Int) (k : w.grownBy w2 none) (o : NU w2 base V' l)
    (hb : ∀ q, V'.ownBlock = some q → w.heap.size ≤ q) (hr : ∀ y ∈ l, 0 ≤ y ∧ y < 4294967296) : OR (w2.setCell ⟨g, x, none⟩ V') base (.slice (some ⟨g, 0, none⟩) n c) (L.set x l) (Vs.set x V') := by
  subst hn
  have h2 := h.keep0 k
  have st := World.ownsRow.stored h2.out x V'
  have hxV : x < Vs.length := by rw [h.nV]; exact hx
  refine ⟨by rw [List.length_set]; exact st.1, ?_, ?_, rng_set h.rng x l hr⟩
  · intro y hy
    have hy : y < L.length := by simpa using hy
    by_cases e : y = x
    · subst e
      rw [getD_set_at _ _ _ _ hxV, getD_set_at _ _ _ _ hx]
      exact o.kept st.2 (.inr fun q => nu_ne h2.out o g q rfl)
    · rw [getD_set_off _ _ _ _ _ e, getD_set_off _ _ _ _ _ e]
      exact (h2.own y hy).kept st.2 (.inr fun q => nu_ne h2.out (h2.own y hy) g q rfl)
  · intro y z hy hz hne q hq
    rw [List.length_set] at hy hz
    by_cases e : y = x
    · subst e
      rw [getD_set_at _ _ _ _ hxV] at hq
      rw [getD_set_off _ _ _ _ _ (Ne.symm hne)]
      intro hz2
      have := (World.ownsRow.lt (h.own z hz) q hz2).2
      have := hb q hq
      omega
    · rw [getD_set_off _ _ _ _ _ e] at hq
      by_cases e2 : z = x
      · subst e2
        rw [getD_set_at _ _ _ _ hxV]
        intro hz2
        have := (World.ownsRow.lt (h.own y hy) q hq).2
        have := hb q hz2
        omega
      · rw [getD_set_off _ _ _ _ _ e2]
        exact h.dis y z hy hz hne q hq
/-- A longer row of heads: the new one leads to a new row. -/
theorem OR.more {w w1 w2 : World} {base : Nat} {V V2 R : Value} {L : List (List Int)} {Vs : List Value} (h : OR w base V L Vs) (k : w.grownBy w1 none) (l : List Int) (o : NU w1 base R l) (hb : ∀ q, R.ownBlock = some q → w.heap.size ≤ q) (hr : ∀ y ∈ l, 0 ≤ y ∧ y < 4294967296)
    (k2 : w1.grownBy w2 V.ownBlock) (out : w2.ownsRow base 40 1 V2 (Vs ++ [R]).length (Vs ++ [R])) : OR w2 base V2 (L ++ [l]) (Vs ++ [R]) := by
  have h1 := h.keep0 k
  have nV := h.nV
  have far : ∀ (R2 : Value) (l2 : List Int), NU w1 base R2 l2 → NU w2 base R2 l2 := by
    intro R2 l2 o2
    cases e : V.ownBlock with
    | none => rw [e] at k2; exact o2.keep0 k2
    | some g =>
      rw [e] at k2
      exact o2.kept k2 (.inr fun q => nu_ne h1.out o2 g q e)
  have atV : ∀ x, x < L.length → (Vs ++ [R]).getD x nilV = Vs.getD x nilV := by
    intro x hx
    simp [List.getD_eq_getElem?_getD, List.getElem?_append_left (show x < Vs.length by omega)]
  have atL : ∀ x, x < L.length → (L ++ [l]).getD x [] = L.getD x [] := by
    intro x hx
    simp [List.getD_eq_getElem?_getD, List.getElem?_append_left hx]
  have endV : (Vs ++ [R]).getD L.length nilV = R := by
    rw [← nV]; simp [List.getD_eq_getElem?_getD]
  have endL : (L ++ [l]).getD L.length [] = l := by simp [List.getD_eq_getElem?_getD]
  refine ⟨by simpa [nV] using out, ?_, ?_, ?_⟩
  · intro x hx
    simp at hx
    by_cases e : x = L.length
    · subst e; rw [endV, endL]; exact far _ _ o
    · rw [atV x (by omega), atL x (by omega)]; exact far _ _ (h1.own x (by omega))
  · intro x y hx hy hne q hq
    simp at hx hy
    by_cases e : x = L.length
    · subst e
      rw [endV] at hq
      rw [atV y (by omega)]
      intro h3
      have := (World.ownsRow.lt (h.own y (by omega)) q h3).2
      have := hb q hq
      omega
    · rw [atV x (by omega)] at hq
      by_cases e2 : y = L.length
      · subst e2
        rw [endV]
        intro h3
        have := (World.ownsRow.lt (h.own x (by omega)) q hq).2
        have := hb q h3
        omega
      · rw [atV y (by omega)]
        exact h.dis x y (by omega) (by omega) hne q hq
  · intro m hm
    simp at hm
    rcases hm with h2 | rfl
    · exact h.rng m h2
    · exact hr
theorem or_nil (w : World) (base : Nat) : OR w base (.slice none 0 0) [] [] :=
  ⟨World.ownsRow_nil _ _ _ _, fun x hx => by simp at hx, fun x y hx => by simp at hx, fun l hl => by cases hl⟩
theorem zero_rng (n : Nat) : ∀ x ∈ List.replicate n (0 : Int), 0 ≤ x ∧ x < 4294967296 := by
  intro x hx
  have := List.eq_of_mem_replicate hx
  subst this; exact ⟨Int.le_refl _, by decide⟩
end Go.Proofs.Ytjhknmklejkknaa
end
section
namespace Go.Proofs.Ytjhknmklejkknaa
open Go.RowKit
set_option linter.unusedVariables false
/-- The call returns v and changes nothing; it may draw. -/
def RetD (v : Value) (w : World) (e : Ending) (w' : World) : Prop := e = .returned v ∧ ∃ m, w' = w.drewN m
theorem dn_zero (w : World) : ∃ m, w = w.drewN m := ⟨0, rfl⟩
theorem dn_more {w w2 : World} (h : ∃ m, w2 = w.drewN m) (n : Nat) : ∃ m, w2.drewN n = w.drewN m := by
  obtain ⟨m, rfl⟩ := h; exact ⟨m + n, by rw [World.drewN_drewN]⟩
theorem dn_gb {w w2 : World} (h : ∃ m, w2 = w.drewN m) (row : Option Nat) : w.grownBy w2 row := by
  obtain ⟨m, rfl⟩ := h; exact gb_drewN w m row
theorem RetD.v {v : Value} {w w' : World} {e : Ending} (h : RetD v w e w') : RetV v w e w' := ⟨h.1, dn_gb h.2 _⟩
theorem rfits_any (v w : Int) (W : World) (k0 : 0 ≤ v) (k1 : v < 4294967296) (h0 : 0 ≤ w) (h1 : w ≤ 32) : Calls Try.prog 52 #[.int .u32 v, .int .i64 w] W (RetS (.bool (decide (v < pw w.toNat))) W) := by
  go_enter Try.func52, Try.ntmps52
  go_wp2
  go_loop [5, 6] (fun x i => ∃ k : Nat, k ≤ w.toNat ∧ x = .int .u64 (pw k) ∧ i = .int .i64 k) (fun _ i => w.toNat - (intOf i).toNat)
  case atStart => exact ⟨0, Nat.zero_le _, rfl, rfl⟩
  case round =>
    obtain ⟨k, hk, rfl, rfl⟩ := hrel
    have hp := pw_pos k
    by_cases hlt : (k : Int) < w
    · have hb := pw_le62 k (by omega)
      go_wp2
      go_round
      case rel => exact ⟨k + 1, by omega, by rw [pw_succ], by go_num⟩
      case measure => simp [intOf]; omega
    · go_wp2
      go_ret
      exact ⟨ret_b (by rw [show k = w.toNat by omega]), rfl⟩
end Go.Proofs.Ytjhknmklejkknaa
end
section
namespace Go.Proofs.Ytjhknmklejkknaa
open Go.RowKit
set_option linter.unusedVariables false

set_option maxRecDepth 100000 in
set_option maxHeartbeats 1000000 in
theorem requ_any (w : World) (a b : Option Addr) (n c m d : Nat) (X Y : List Int) (h : SU w a n c X) (g : SU w b m d Y) (hn : n ≤ 1000000) (hm : m ≤ 1000000) :
    Calls Try.prog 50 #[.slice a n c, .slice b m d] w (RetD (.bool (decide (X = Y))) w) := by
  have H1 := Lib.hid h
  have H2 := Lib.hid g
  have hx := h.len
  have hy := g.len
  clear h g
  by_cases hl : X.length = Y.length
  · have e0 : n = m := by omega
    have HX := Lib.hid hx
    have HY := Lib.hid (show Y.length = n by omega)
    clear hx hy hl
    subst e0
    go_enter Try.func50, Try.ntmps50
    go_wp2
    go_loopw [5] (fun s wr => ∃ k : Nat, k ≤ n ∧ s = .int .i64 k ∧ (∀ j, j < k → X.getD j 0 = Y.getD j 0) ∧ ∃ m, wr = w.drewN m) (fun s _ => n - (intOf s).toNat)
    case atStart => exact ⟨0, Nat.zero_le _, rfl, fun j hj => absurd hj (Nat.not_lt_zero _), dn_zero _⟩
    case round =>
      obtain ⟨k, hk, rfl, hno, hg⟩ := hrel
      have HG := Lib.hid hg
      have HN := Lib.hid hno
      clear hg hno
      by_cases hlt : k < n
      · obtain ⟨ar, rfl⟩ := H1.out.some (by omega)
        obtain ⟨br, rfl⟩ := H2.out.some (by omega)
        have c1 := (H1.out.keep0 (dn_gb HG.out _)).cells ar rfl k hlt
        have c2 := (H2.out.keep0 (dn_gb HG.out _)).cells br rfl k hlt
        have i0 : (0 : Int) ≤ (k : Int) := by omega
        have i2 : (k : Int) < (n : Int) := by omega
        by_cases he : X.getD k 0 = Y.getD k 0
        · have HA := Lib.hid (show ∀ j, j < k + 1 → X.getD j 0 = Y.getD j 0 from fun j hj => by
            rcases (show j < k ∨ j = k by omega) with q | rfl
            · exact HN.out j q
            · exact he)
          rw [← he] at c2
          clear he
          generalize X.getD k 0 = z at *
          go_wp2
          (try go_quiet (fail))
          (try go_wp2)
          go_roundw
          case rel => exact ⟨k + 1, by omega, by go_num, HA.out, dn_more HG.out _⟩
          case measure => simp [intOf]; omega
        · have HE := Lib.hid (show decide (X = Y) = false from decide_eq_false fun e => he (by rw [e]))
          generalize X.getD k 0 = z at *
          generalize Y.getD k 0 = y at *
          go_wp2
          (try go_quiet (fail))
          (try go_wp2)
          go_ret
          exact ⟨by rw [HE.out] <;> rfl, dn_more HG.out _⟩
      · have hke : k = n := by omega
        subst hke
        have HE := Lib.hid (show decide (X = Y) = true from decide_eq_true (by
          apply List.ext_getElem (by rw [HX.out, HY.out])
          intro i h1 h2
          have q := HN.out i (by have := HX.out; omega)
          simpa [h1, h2] using q))
        go_wp2
        go_ret
        exact ⟨by rw [HE.out] <;> rfl, HG.out⟩
  · have HE := Lib.hid (show decide (X = Y) = false from decide_eq_false fun e => hl (by rw [e]))
    have hne : ¬ n = m := by omega
    have hne2 : ¬ (n : Int) = (m : Int) := by omega
    clear hx hy hl
    go_enter Try.func50, Try.ntmps50
    go_wp2
    go_ret
    exact ⟨by rw [HE.out] <;> rfl, dn_zero _⟩

end Go.Proofs.Ytjhknmklejkknaa
end
section
namespace Go.Proofs.Ytjhknmklejkknaa
open Go.RowKit
set_option linter.unusedVariables false

end Go.Proofs.Ytjhknmklejkknaa
end
section
namespace Go.Proofs.Ytjhknmklejkknaa
open Go.RowKit
set_option linter.unusedVariables false
end Go.Proofs.Ytjhknmklejkknaa
end
section
namespace Go.Proofs.Ytjhknmklejkknaa
open Go.RowKit
set_option linter.unusedVariables false
theorem bool_no {b : Bool} {P : Prop} (h : b = true ↔ P) (k : ¬ P) : b = false := by
  cases b
  · rfl
  · exact absurd (h.1 rfl) k
end Go.Proofs.Ytjhknmklejkknaa
end
