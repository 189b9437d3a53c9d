/- Units: guards and units in memory; isIndex; a list of guards asked by a closure; no condition. -/
import Derived.Test.YtfjeonoihdgdoaaCnA
import Derived.Test.YtfjeonoihdgdoaaExWo
import Derived.Maps.OwnSet
import Derived.DeepKeys4
import Derived.BigQuiet
namespace Go.Proofs.Ytfjeonoihdgdoaa
open Go.RowKit
set_option linter.unusedVariables false
/-- A guard: its unit and the wanted bit. -/
abbrev Gd := Int × Bool
/-- A slice that reads as a list of guards. -/
structure SGd (w : World) (s : Sl) (L : List Gd) : Prop where
  len : L.length = s.n
  nil : s.a = none → s.n = 0 ∧ s.c = 0
  cap : s.n ≤ s.c
  cells : ∀ ad, s.a = some ad → ∀ j, j < s.n → w.cell? (ad.add (j * 2)) = some (.int .i64 (L.getD j (0, false)).1) ∧ w.cell? ⟨(ad.add (j * 2)).block, (ad.add (j * 2)).off + 1, none⟩ = some (.bool (L.getD j (0, false)).2)
  rng : ∀ x ∈ L, -9223372036854775808 ≤ x.1 ∧ x.1 ≤ 9223372036854775807
theorem SGd.keep0 {w w2 : World} {s : Sl} {L : List Gd} (h : SGd w s L) (k : w.grownBy w2 none) : SGd w2 s L :=
  ⟨h.len, h.nil, h.cap, fun ad e j hj => ⟨k.cell (h.cells ad e j hj).1 (by simp), k.cell (h.cells ad e j hj).2 (by simp)⟩, h.rng⟩
theorem SGd.keepc {w w2 : World} {s : Sl} {L : List Gd} (h : SGd w s L) (k : Kc w w2) : SGd w2 s L :=
  ⟨h.len, h.nil, h.cap, fun ad e j hj => ⟨k _ _ (h.cells ad e j hj).1, k _ _ (h.cells ad e j hj).2⟩, h.rng⟩
theorem SGd.some {w : World} {s : Sl} {L : List Gd} (h : SGd w s L) (hn : 0 < s.n) : ∃ ad, s.a = some ad := by
  cases e : s.a with
  | none => have := (h.nil e).1; omega
  | some ad => exact ⟨ad, rfl⟩
theorem SGd.in_ {w : World} {s : Sl} {L : List Gd} (h : SGd w s L) (j : Nat) (hj : j < s.n) : -9223372036854775808 ≤ (L.getD j (0, false)).1 ∧ (L.getD j (0, false)).1 ≤ 9223372036854775807 := by
  have hl : j < L.length := by rw [h.len]; exact hj
  have e : L.getD j (0, false) = L[j] := by simp [List.getD_eq_getElem?_getD, List.getElem?_eq_getElem hl]
  rw [e]; exact h.rng _ (List.getElem_mem _)
/-- A unit: its table, its condition and where it lies, its guards and where they lie. -/
structure Un where
  t : Int
  c : Sl
  N : List Nd
  g : Sl
  G : List Gd
def uz : Un := ⟨0, ⟨none, 0, 0⟩, [], ⟨none, 0, 0⟩, []⟩
/-- A slice that reads as a list of units. -/
structure SUn (w : World) (s : Sl) (L : List Un) : Prop where
  len : L.length = s.n
  nil : s.a = none → s.n = 0 ∧ s.c = 0
  cap : s.n ≤ s.c
  cells : ∀ ad, s.a = some ad → ∀ j, j < s.n → w.cell? (ad.add (j * 3)) = some (.int .i64 (L.getD j uz).t) ∧ w.cell? ⟨(ad.add (j * 3)).block, (ad.add (j * 3)).off + 1, none⟩ = some (L.getD j uz).c.v ∧ w.cell? ⟨(ad.add (j * 3)).block, (ad.add (j * 3)).off + 2, none⟩ = some (L.getD j uz).g.v
  mem : ∀ j, j < s.n → SN w (L.getD j uz).c.a (L.getD j uz).c.n (L.getD j uz).c.c (L.getD j uz).N ∧ SGd w (L.getD j uz).g (L.getD j uz).G
theorem SUn.keepc {w w2 : World} {s : Sl} {L : List Un} (h : SUn w s L) (k : Kc w w2) : SUn w2 s L :=
  ⟨h.len, h.nil, h.cap, fun ad e j hj => ⟨k _ _ (h.cells ad e j hj).1, k _ _ (h.cells ad e j hj).2.1, k _ _ (h.cells ad e j hj).2.2⟩, fun j hj => ⟨(h.mem j hj).1.keepc k, (h.mem j hj).2.keepc k⟩⟩
theorem SUn.keep0 {w w2 : World} {s : Sl} {L : List Un} (h : SUn w s L) (k : w.grownBy w2 none) : SUn w2 s L := h.keepc (Kc.of_gb k)
theorem SUn.some {w : World} {s : Sl} {L : List Un} (h : SUn w s L) (hn : 0 < s.n) : ∃ ad, s.a = some ad := by
  cases e : s.a with
  | none => have := (h.nil e).1; omega
  | some ad => exact ⟨ad, rfl⟩
theorem isidx_any (w : World) (i n : Int) : Calls Try.prog 60 #[.int .i64 i, .int .i64 n] w (fun e w' => e = .returned (.bool (decide (0 ≤ i ∧ i < n))) ∧ w' = w) := by
  by_cases h1 : 0 ≤ i
  · by_cases h2 : i < n
    · rw [decide_eq_true (⟨h1, h2⟩ : 0 ≤ i ∧ i < n)]
      go_enter Try.func60, Try.ntmps60
      go_wp2
      go_ret
      exact ⟨rfl, rfl⟩
    · rw [decide_eq_false (fun k : 0 ≤ i ∧ i < n => h2 k.2)]
      go_enter Try.func60, Try.ntmps60
      go_wp2
      go_ret
      exact ⟨rfl, rfl⟩
  · rw [decide_eq_false (fun k : 0 ≤ i ∧ i < n => h1 k.1)]
    go_enter Try.func60, Try.ntmps60
    go_wp2
    go_ret
    exact ⟨rfl, rfl⟩
theorem take_g (L : List Gd) (j : Nat) (hj : j < L.length) : L.take (j + 1) = L.take j ++ [L.getD j (0, false)] := by
  rw [List.take_add_one, List.getElem?_eq_getElem hj]
  simp [List.getD_eq_getElem?_getD, List.getElem?_eq_getElem hj]
set_option maxRecDepth 100000 in
set_option maxHeartbeats 4000000 in
theorem gidx_any (w : World) (s : Sl) (L : List Gd) (h : SGd w s L) (hn : s.n ≤ 100000) (f : Nat) (cp : Array Value) (P : Gd → Bool)
    (hcf : ∀ (args : Array Value) (w : World), (callFunc f args).run Try.prog w = .ok (.enter f args) w)
    (hstep : ∀ u b W, -9223372036854775808 ≤ u ∧ u ≤ 9223372036854775807 → w.grownBy W none → Calls Try.prog f (#[.agg #[.int .i64 u, .bool b]] ++ cp) W (RetV (.bool (P (u, b))) W)) :
    Calls Try.prog 85 #[.slice s.a s.n s.c, .func (.func f) #[] cp] w (fun e w' => ∃ i : Int, e = .returned (.int .i64 i) ∧ ((L.any P = true ∧ 0 ≤ i) ∨ (L.any P = false ∧ i = -1)) ∧ w.grownBy w' none) := by
  have HH := Lib.hid h
  have HS := Lib.hid hstep
  obtain ⟨sa, n, sc⟩ := s
  dsimp only at hn ⊢
  clear h hstep
  go_enter Try.func85, Try.ntmps85
  go_wp2
  go_loopw [8] (fun i wr => ∃ j : Nat, j ≤ n ∧ i = .int .i64 j ∧ (L.take j).any P = false ∧ w.grownBy wr none) (fun i _ => n - (intOf i).toNat)
  case atStart => exact ⟨0, Nat.zero_le _, rfl, rfl, gb_refl _ _⟩
  case round =>
    obtain ⟨j, hj, rfl, ht, hg⟩ := hrel
    have HT := Lib.hid ht
    have HG := Lib.hid hg
    clear ht hg
    by_cases hlt : j < n
    · obtain ⟨ad, hsa⟩ := HH.out.some (by dsimp only; omega)
      dsimp only at hsa
      subst hsa
      have i1 : (j : Int) < n := by omega
      have i0 : (0 : Int) ≤ (j : Int) := by omega
      have hl : j < L.length := by rw [HH.out.len]; exact hlt
      obtain ⟨c0, c1⟩ := (HH.out.keep0 HG.out).cells ad rfl j hlt
      have b0 := HH.out.in_ j hlt
      have ST := Lib.hid (show (L.take (j + 1)).any P = ((L.take j).any P || P (L.getD j (0, false))) by rw [take_g L j hl]; rw [List.any_append]; simp)
      have YES := Lib.hid (show P (L.getD j (0, false)) = true → L.any P = true from fun e => by
        rw [List.any_eq_true]
        exact ⟨L.getD j (0, false), by rw [List.getD_eq_getElem?_getD, List.getElem?_eq_getElem hl]; exact List.getElem_mem _, e⟩)
      obtain ⟨p, hp⟩ : ∃ p, p = L.getD j (0, false) := ⟨_, rfl⟩
      rw [← hp] at c0 c1 b0 ST YES
      obtain ⟨v, m⟩ := p
      have CO := Lib.hid (HS.out v m wr b0 HG.out)
      unfold RetV at CO
      clear hp b0 hl
      cases hh : P (v, m)
      · rw [hh] at CO
        have S2 := Lib.hid (show (L.take (j + 1)).any P = false by rw [ST.out, HT.out, hh]; rfl)
        clear hh ST YES
        go_wp2_with fail
        refine CO.out.mono ?_
        rintro e w3 ⟨rfl, g3⟩
        have G3 := Lib.hid (gb_trans HG.out g3)
        clear g3 c0 c1
        go_wp2
        go_roundw
        case rel => exact ⟨j + 1, by omega, by go_num, S2.out, G3.out⟩
        case measure => simp [intOf]; omega
      · rw [hh] at CO
        have R2 := Lib.hid (YES.out hh)
        clear hh ST YES
        go_wp2_with fail
        refine CO.out.mono ?_
        rintro e w3 ⟨rfl, g3⟩
        have G3 := Lib.hid (gb_trans HG.out g3)
        clear g3 c0 c1
        go_wp2
        go_ret
        exact ⟨_, rfl, .inl ⟨R2.out, by omega⟩, G3.out⟩
    · have hje : j = n := by omega
      have R2 := Lib.hid (show L.any P = false by have := HT.out; rwa [List.take_of_length_le (by have := HH.out.len; dsimp only at this; omega)] at this)
      subst hje
      go_wp2
      go_ret
      exact ⟨_, rfl, .inr ⟨R2.out, rfl⟩, HG.out⟩
theorem gcf_any (w : World) (s : Sl) (L : List Gd) (h : SGd w s L) (hn : s.n ≤ 100000) (f : Nat) (cp : Array Value) (P : Gd → Bool)
    (hcf : ∀ (args : Array Value) (w : World), (callFunc f args).run Try.prog w = .ok (.enter f args) w)
    (hstep : ∀ u b W, -9223372036854775808 ≤ u ∧ u ≤ 9223372036854775807 → w.grownBy W none → Calls Try.prog f (#[.agg #[.int .i64 u, .bool b]] ++ cp) W (RetV (.bool (P (u, b))) W)) :
    Calls Try.prog 62 #[.slice s.a s.n s.c, .func (.func f) #[] cp] w (RetV (.bool (L.any P)) w) := by
  have IX := Lib.hid (gidx_any w s L h hn f cp P hcf hstep)
  clear h hstep
  go_enter Try.func62, Try.ntmps62
  go_wp2_with fail
  refine IX.out.mono ?_
  rintro e w3 ⟨i, rfl, hi, g3⟩
  have G3 := Lib.hid g3
  clear g3
  rcases hi with ⟨ha, h0⟩ | ⟨ha, rfl⟩
  · have HA := Lib.hid ha
    clear ha
    go_wp2
    go_ret
    exact ⟨by rw [HA.out]; rfl, G3.out⟩
  · have HA := Lib.hid ha
    clear ha
    go_wp2
    go_ret
    exact ⟨by rw [HA.out]; rfl, G3.out⟩
end Go.Proofs.Ytfjeonoihdgdoaa
