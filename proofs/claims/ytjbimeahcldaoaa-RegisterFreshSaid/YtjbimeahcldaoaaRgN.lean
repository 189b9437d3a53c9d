/- Register: CheckContents of the program; no condition but sizes. -/
import Derived.Test.YtjbimeahcldaoaaRgM
namespace Go.Proofs.Ytjbimeahcldaoaa
open Go.RowKit
set_option linter.unusedVariables false
def sameZ (L : List Rg) (R : List (List Int)) : Bool := (List.range L.length).all fun j => decide (((R.getD j []).length : Int) = (L.getD j rz).2.2)
def fitZ (L : List Rg) (R : List (List Int)) : Bool := (List.range L.length).all fun j => fitR (L.getD j rz) (R.getD j [])
def contZ (L : List Rg) (R : List (List Int)) : Int := if L.length = R.length then (if sameZ L R = true then (if fitZ L R = true then 0 else 9) else 2) else 2
theorem same_iff (L : List Rg) (R : List (List Int)) : sameZ L R = true ↔ ∀ j, j < L.length → ((R.getD j []).length : Int) = (L.getD j rz).2.2 := by
  unfold sameZ
  simp only [List.all_eq_true, List.mem_range, decide_eq_true_eq]
theorem fit_iff (L : List Rg) (R : List (List Int)) : fitZ L R = true ↔ ∀ j, j < L.length → fitR (L.getD j rz) (R.getD j []) = true := by
  unfold fitZ
  simp only [List.all_eq_true, List.mem_range]
theorem bool_no {b : Bool} {P : Prop} (h : b = true ↔ P) (k : ¬ P) : b = false := by
  cases b
  · rfl
  · exact absurd (h.1 rfl) k
theorem cc1_any (w : World) (nm : ByteArray) (wd sz : Int) (fa : Option Addr) (fn fc : Nat) (b : Bool) (hb : decide ((fn : Int) = sz) = b) : Calls Try.prog 28 #[.agg #[.string nm, .int .i64 wd, .int .i64 sz], .slice fa fn fc] w (RetV (.bool b) w) := by
  by_cases h : (fn : Int) = sz
  · obtain rfl : b = true := by rw [← hb]; exact decide_eq_true h
    clear hb
    subst h
    go_enter Try.func28, Try.ntmps28
    go_wp2
    go_ret
    exact ⟨rfl, gb_alloc _ _ _⟩
  · obtain rfl : b = false := by rw [← hb]; exact decide_eq_false h
    clear hb
    have h2 : ((fn : Int) == sz) = false := by rw [beq_eq_false_iff_ne]; exact h
    go_enter Try.func28, Try.ntmps28
    go_wp2
    go_ret
    exact ⟨by (try rw [h2]) <;> rfl, gb_alloc _ _ _⟩
set_option maxRecDepth 100000 in
set_option maxHeartbeats 4000000 in
theorem seqg_b (w : World) (a b : Option Addr) (m d n c : Nat) (L : List Rg) (R : List (List Int)) (h : SG w a m d L) (g : SR w b n c R) (hm : m ≤ 1000000) (hn : n ≤ 1000000) (bo : Bool) (hbo : (decide (L.length = R.length) && sameZ L R) = bo) :
    Calls Try.prog 29 #[.slice a m d, .slice b n c, .func (.func 28) #[] #[]] w (RetV (.bool bo) w) := by
  have H := Lib.hid h
  have K := Lib.hid g
  have LN := Lib.hid h.len
  have RN := Lib.hid g.len
  have HB := Lib.hid hbo
  clear h g hbo
  by_cases hl : m = n
  · subst hl
    rw [decide_eq_true (show L.length = R.length by rw [LN.out, RN.out]), Bool.true_and] at HB
    go_enter Try.func29, Try.ntmps29
    go_wp2
    go_loopw [17] (fun s wr => ∃ k : Nat, k ≤ m ∧ s = .int .i64 k ∧ (∀ j, j < k → ((R.getD j []).length : Int) = (L.getD j rz).2.2) ∧ w.grownBy wr none) (fun s _ => m - (intOf s).toNat)
    case atStart => exact ⟨0, Nat.zero_le _, rfl, fun j hj => absurd hj (Nat.not_lt_zero _), gb_refl _ _⟩
    case round =>
      obtain ⟨k, hk, rfl, hno, hg⟩ := hrel
      have HG := Lib.hid hg
      have HN := Lib.hid hno
      clear hg hno
      by_cases hlt : k < m
      · obtain ⟨ar, rfl⟩ := H.out.some (by omega)
        obtain ⟨br, rfl⟩ := K.out.some (by omega)
        obtain ⟨x0, x1, x2⟩ := (H.out.keep0 HG.out).cells ar rfl k hlt
        obtain ⟨fa, fn, fc, y0, y1⟩ := (K.out.keep0 HG.out).cells br rfl k hlt
        have FN := Lib.hid y1.len
        have y0' : (wr.alloc (.cells #[.string (L.getD k rz).1, .int .i64 (L.getD k rz).2.1, .int .i64 (L.getD k rz).2.2] 23)).cell? (br.add k) = some (.slice fa fn fc) := (gb_alloc wr _ none).cell y0 (by simp)
        have i0 : (0 : Int) ≤ (k : Int) := by omega
        have i2 : (k : Int) < (m : Int) := by omega
        have YES := Lib.hid (show (fn : Int) = (L.getD k rz).2.2 → ∀ j, j < k + 1 → ((R.getD j []).length : Int) = (L.getD j rz).2.2 from fun e j hj => by
          rcases (show j < k ∨ j = k by omega) with q | rfl
          · exact HN.out j q
          · rw [FN.out]; exact e)
        have NO := Lib.hid (show ¬ (fn : Int) = (L.getD k rz).2.2 → sameZ L R = false from fun e => bool_no (same_iff L R) fun q => e (by rw [← FN.out]; exact q k (by rw [LN.out]; exact hlt)))
        clear y0 y1
        obtain ⟨g0, hg0⟩ : ∃ g, g = L.getD k rz := ⟨_, rfl⟩
        rw [← hg0] at x0 x1 x2 y0' YES NO
        clear hg0
        obtain ⟨nm, wd, sz⟩ := g0
        by_cases he : (fn : Int) = sz
        · have C1 := Lib.hid (fun w => cc1_any w nm wd sz fa fn fc true (decide_eq_true he))
          unfold RetV at C1
          have Y2 := Lib.hid (YES.out he)
          clear YES NO he
          go_wp2_with fail
          refine (C1.out _).mono ?_
          rintro e w3 ⟨rfl, g3⟩
          have G3 := Lib.hid (gb_trans (gb_al HG.out) g3)
          clear g3 x0 x1 x2 y0'
          go_wp2
          go_roundw
          case rel => exact ⟨k + 1, by omega, by go_num, Y2.out, G3.out⟩
          case measure => simp [intOf]; omega
        · have C1 := Lib.hid (fun w => cc1_any w nm wd sz fa fn fc false (decide_eq_false he))
          unfold RetV at C1
          obtain rfl : bo = false := by rw [← HB.out]; exact NO.out he
          clear YES NO he HB
          go_wp2_with fail
          refine (C1.out _).mono ?_
          rintro e w3 ⟨rfl, g3⟩
          have G3 := Lib.hid (gb_trans (gb_al HG.out) g3)
          clear g3 x0 x1 x2 y0'
          go_wp2
          go_ret
          exact ⟨rfl, G3.out⟩
      · have hke : k = m := by omega
        subst hke
        obtain rfl : bo = true := by rw [← HB.out]; exact (same_iff L R).2 fun j hj => HN.out j (by rw [← LN.out]; exact hj)
        clear HB
        go_wp2
        go_ret
        exact ⟨rfl, HG.out⟩
  · obtain rfl : bo = false := by rw [← HB.out, decide_eq_false (show ¬ L.length = R.length by rw [LN.out, RN.out]; exact hl)]; rfl
    have hne2 : ¬ (m : Int) = (n : Int) := by omega
    clear HB
    go_enter Try.func29, Try.ntmps29
    go_wp2
    go_ret
    exact ⟨rfl, gb_refl _ _⟩
theorem af1_any (w : World) (g : Nat) (nm : ByteArray) (wd sz v : Int) (h : IsB w g 23 #[.string nm, .int .i64 wd, .int .i64 sz]) (b : Bool) (hb : decide (mkB wd < v) = b) : Calls Try.prog 45 #[.int .u32 v, .pointer (some ⟨g, 0, none⟩)] w (RetV (.bool b) w) := by
  have s1 : w.cell? ⟨g, 1, none⟩ = some (.int .i64 wd) := h.cell 1
  have MK := Lib.hid (mask_any wd w)
  clear h
  go_enter Try.func45, Try.ntmps45
  go_wp2_with fail
  refine MK.out.mono ?_
  rintro e w2 ⟨rfl, g2⟩
  have G2 := Lib.hid (gb_gr g2 none)
  clear g2
  go_wp2
  go_ret
  exact ⟨by first | rw [hb] | (rw [← hb] <;> rfl), G2.out⟩
set_option maxRecDepth 100000 in
set_option maxHeartbeats 4000000 in
theorem idxu_any (w : World) (a : Option Addr) (n c : Nat) (l : List Int) (h : SU w a n c l) (hn : n ≤ 1000000) (f : Nat) (cp : Array Value) (P : Int → Bool)
    (hcf : ∀ (args : Array Value) (w : World), (callFunc f args).run Try.prog w = .ok (.enter f args) w)
    (hstep : ∀ v W, w.grownBy W none → Calls Try.prog f (#[.int .u32 v] ++ cp) W (RetV (.bool (P v)) W)) :
    Calls Try.prog 53 #[.slice a n c, .func (.func f) #[] cp] w (fun e w' => ∃ i : Int, e = .returned (.int .i64 i) ∧ ((l.any P = true ∧ 0 ≤ i) ∨ (l.any P = false ∧ i = -1)) ∧ w.grownBy w' none) := by
  have HH := Lib.hid h
  have HS := Lib.hid hstep
  clear h hstep
  go_enter Try.func53, Try.ntmps53
  go_wp2
  go_loopw [8] (fun i wr => ∃ j : Nat, j ≤ n ∧ i = .int .i64 j ∧ (l.take j).any P = false ∧ w.grownBy wr none) (fun i _ => n - (intOf i).toNat)
  case atStart => exact ⟨0, Nat.zero_le _, rfl, rfl, gb_refl _ _⟩
  case round =>
    obtain ⟨j, hj, rfl, ht, hg⟩ := hrel
    have HT := Lib.hid ht
    have HG := Lib.hid hg
    clear ht hg
    by_cases hlt : j < n
    · obtain ⟨ad, rfl⟩ := HH.out.some (by omega)
      have i1 : (j : Int) < n := by omega
      have i0 : (0 : Int) ≤ (j : Int) := by omega
      have hl : j < l.length := by rw [HH.out.len]; exact hlt
      have c0 := (HH.out.keep0 HG.out).cells ad rfl j hlt
      have ST := Lib.hid (show (l.take (j + 1)).any P = ((l.take j).any P || P (l.getD j 0)) by
        rw [List.take_add_one, List.any_append, List.getD_eq_getElem?_getD, List.getElem?_eq_getElem hl]; simp)
      have YES := Lib.hid (show P (l.getD j 0) = true → l.any P = true from fun e => by
        rw [List.any_eq_true]
        exact ⟨l.getD j 0, by rw [List.getD_eq_getElem?_getD, List.getElem?_eq_getElem hl]; exact List.getElem_mem _, e⟩)
      obtain ⟨v, hp⟩ : ∃ p, p = l.getD j 0 := ⟨_, rfl⟩
      rw [← hp] at c0 ST YES
      have CO := Lib.hid (HS.out v wr HG.out)
      unfold RetV at CO
      clear hp hl
      cases hh : P v
      · rw [hh] at CO
        have S2 := Lib.hid (show (l.take (j + 1)).any P = false by rw [ST.out, HT.out, hh]; rfl)
        clear hh ST YES
        go_wp2_with fail
        refine CO.out.mono ?_
        rintro e w3 ⟨rfl, g3⟩
        have G3 := Lib.hid (gb_trans HG.out g3)
        clear g3 c0
        go_wp2
        go_roundw
        case rel => exact ⟨j + 1, by omega, by go_num, S2.out, G3.out⟩
        case measure => simp [intOf]; omega
      · rw [hh] at CO
        have R2 := Lib.hid (YES.out hh)
        clear hh ST YES
        go_wp2_with fail
        refine CO.out.mono ?_
        rintro e w3 ⟨rfl, g3⟩
        have G3 := Lib.hid (gb_trans HG.out g3)
        clear g3 c0
        go_wp2
        go_ret
        exact ⟨_, rfl, .inl ⟨R2.out, by omega⟩, G3.out⟩
    · have hje : j = n := by omega
      have R2 := Lib.hid (show l.any P = false by have := HT.out; rwa [List.take_of_length_le (by rw [HH.out.len]; omega)] at this)
      subst hje
      go_wp2
      go_ret
      exact ⟨_, rfl, .inr ⟨R2.out, rfl⟩, HG.out⟩
theorem cfu_any (w : World) (a : Option Addr) (n c : Nat) (l : List Int) (h : SU w a n c l) (hn : n ≤ 1000000) (f : Nat) (cp : Array Value) (P : Int → Bool)
    (hcf : ∀ (args : Array Value) (w : World), (callFunc f args).run Try.prog w = .ok (.enter f args) w)
    (hstep : ∀ v W, w.grownBy W none → Calls Try.prog f (#[.int .u32 v] ++ cp) W (RetV (.bool (P v)) W)) :
    Calls Try.prog 47 #[.slice a n c, .func (.func f) #[] cp] w (RetV (.bool (l.any P)) w) := by
  have IX := Lib.hid (idxu_any w a n c l h hn f cp P hcf hstep)
  clear h hstep
  go_enter Try.func47, Try.ntmps47
  go_wp2_with fail
  refine IX.out.mono ?_
  rintro e w3 ⟨i, rfl, hi, g3⟩
  have G3 := Lib.hid g3
  clear g3
  rcases hi with ⟨ha, h0⟩ | ⟨ha, rfl⟩
  · have HA := Lib.hid ha
    clear ha
    go_wp2
    go_ret
    exact ⟨by rw [HA.out]; rfl, G3.out⟩
  · have HA := Lib.hid ha
    clear ha
    go_wp2
    go_ret
    exact ⟨by rw [HA.out]; rfl, G3.out⟩
end Go.Proofs.Ytjbimeahcldaoaa
