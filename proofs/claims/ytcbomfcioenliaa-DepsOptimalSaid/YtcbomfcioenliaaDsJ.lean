/- The reference's smaller and follows: the walks; no condition but the sizes. -/
import Derived.Test.YtcbomfcioenliaaDsI
namespace Go.Proofs.Ytcbomfcioenliaa
open Go.RowKit
set_option linter.unusedVariables false

theorem smB_drop {xs ys : List Int} {k : Nat} (h1 : k < xs.length) (h2 : k < ys.length) (e : xs.getD k 0 = ys.getD k 0) : smB (xs.drop k) (ys.drop k) = smB (xs.drop (k + 1)) (ys.drop (k + 1)) := by
  rw [List.drop_eq_getElem_cons h1, List.drop_eq_getElem_cons h2, smB, if_pos]
  simpa [h1, h2] using e
theorem smB_diff {xs ys : List Int} {k : Nat} (h1 : k < xs.length) (h2 : k < ys.length) (e : ¬ xs.getD k 0 = ys.getD k 0) : smB (xs.drop k) (ys.drop k) = decide (xs.getD k 0 < ys.getD k 0) := by
  rw [List.drop_eq_getElem_cons h1, List.drop_eq_getElem_cons h2, smB]
  simp [h1, h2] at e ⊢
  intro q
  exact absurd q e
theorem smB_end {xs ys : List Int} {k : Nat} (h1 : k ≤ xs.length) (h2 : k ≤ ys.length) (h : ¬ (k < xs.length ∧ k < ys.length)) : smB (xs.drop k) (ys.drop k) = decide (xs.length < ys.length) := by
  by_cases c : k < xs.length
  · have e : k = ys.length := by omega
    rw [List.drop_eq_getElem_cons c, List.drop_of_length_le (l := ys) (by omega), smB]
    exact (decide_eq_false (by omega)).symm
  · rw [List.drop_of_length_le (l := xs) (by omega), smB]
    by_cases q : k < ys.length
    · rw [List.drop_eq_getElem_cons q]
      exact (decide_eq_true (by omega)).symm
    · rw [List.drop_of_length_le (l := ys) (by omega)]
      exact (decide_eq_false (by omega)).symm

set_option maxHeartbeats 1000000 in
theorem smaller_any (w : World) (a b : Option Addr) (n c m d : Nat) (xs ys : List Int) (h : SlR w a n c (xs.map (Value.int .i64))) (g : SlR w b m d (ys.map (Value.int .i64))) (hn : n ≤ 1000000) (hm : m ≤ 1000000) :
    Calls Try.prog 20 #[.slice a n c, .slice b m d] w (RetD (.bool (smB xs ys)) w) := by
  have hx := h.len'
  have hy := g.len'
  subst hx hy
  have H1 := Lib.hid h
  have H2 := Lib.hid g
  clear h g
  obtain ⟨R, hR⟩ : ∃ R, R = smB xs ys := ⟨_, rfl⟩
  rw [← hR]
  have HR := Lib.hid (show R = smB (xs.drop 0) (ys.drop 0) from hR)
  clear hR
  go_enter Try.func20, Try.ntmps20
  go_wp2
  go_loopw [5] (fun s wr => ∃ k : Nat, k ≤ xs.length ∧ k ≤ ys.length ∧ s = .int .i64 k ∧ R = smB (xs.drop k) (ys.drop k) ∧ ∃ m, wr = w.drewN m) (fun s _ => xs.length - (intOf s).toNat)
  case atStart => exact ⟨0, Nat.zero_le _, Nat.zero_le _, rfl, HR.out, dn_zero _⟩
  case round =>
    obtain ⟨k, hk, hk2, rfl, hno, hg⟩ := hrel
    have HG := Lib.hid hg
    have HN := Lib.hid hno
    clear hg hno HR
    by_cases h1 : k < xs.length
    · have i1 : (k : Int) < (xs.length : Int) := by omega
      by_cases h2 : k < ys.length
      · have i2 : (k : Int) < (ys.length : Int) := by omega
        cases a with
        | none => exact absurd (H1.out.2.1 rfl).1 (by omega)
        | some ar =>
          cases b with
          | none => exact absurd (H2.out.2.1 rfl).1 (by omega)
          | some br =>
            have c1 := (H1.out.keep0 (dn_gb HG.out _)).cellAt k h1
            have c2 := (H2.out.keep0 (dn_gb HG.out _)).cellAt k h2
            by_cases he : xs.getD k 0 = ys.getD k 0
            · have HY := Lib.hid (show R = smB (xs.drop (k + 1)) (ys.drop (k + 1)) by rw [HN.out, smB_drop h1 h2 he])
              rw [← he] at c2
              clear he
              generalize xs.getD k 0 = z at *
              go_wp2_with fail
              go_quiet (fail)
              go_wp2
              go_roundw
              case rel => exact ⟨k + 1, by omega, by omega, by go_num, HY.out, dn_more HG.out _⟩
              case measure => simp [intOf]; omega
            · have HE := Lib.hid (show R = decide (xs.getD k 0 < ys.getD k 0) by rw [HN.out, smB_diff h1 h2 he])
              have c1d := fun q => ((H1.out.keep0 (dn_gb (dn_more HG.out q) none)).cellAt k h1)
              have c2d := fun q => ((H2.out.keep0 (dn_gb (dn_more HG.out q) none)).cellAt k h2)
              have b1 : (xs.getD k 0 != ys.getD k 0) = true := by simpa using he
              generalize xs.getD k 0 = z at *
              generalize ys.getD k 0 = y at *
              go_wp2_with fail
              go_quiet (fail)
              go_wp2_with fail
              go_quiet (fail)
              go_wp2
              go_ret
              exact ret_bd HE.out.symm (dn_more (dn_more HG.out _) _)
      · have i2 : ¬ (k : Int) < (ys.length : Int) := by omega
        have HE := Lib.hid (show R = decide (xs.length < ys.length) by rw [HN.out]; exact smB_end hk hk2 (fun k => h2 k.2))
        have hf : ¬ (xs.length : Int) < (ys.length : Int) := by omega
        have HE := Lib.hid (show R = false by rw [HE.out]; exact decide_eq_false (by omega))
        go_wp2
        go_ret
        exact ret_bd HE.out.symm HG.out
    · have i1 : ¬ (k : Int) < (xs.length : Int) := by omega
      have HE := Lib.hid (show R = decide (xs.length < ys.length) by rw [HN.out]; exact smB_end hk hk2 (fun k => h1 k.1))
      by_cases hf : xs.length < ys.length
      · have HE := Lib.hid (show R = true by rw [HE.out]; exact decide_eq_true hf)
        have hf2 : (xs.length : Int) < (ys.length : Int) := by omega
        go_wp2
        go_ret
        exact ret_bd HE.out.symm HG.out
      · have HE := Lib.hid (show R = false by rw [HE.out]; exact decide_eq_false hf)
        have hf2 : ¬ (xs.length : Int) < (ys.length : Int) := by omega
        go_wp2
        go_ret
        exact ret_bd HE.out.symm HG.out

theorem infoB : (Try.prog.info? 4).map (fun i => (i.zero, i.size, i.bytes)) = some (some (.bool false), 1, 1) := by kernel_rfl
/-- A row of truth values of the call's own at block b. -/
def BW (W : World) (b n : Nat) (F : Nat → Bool) (w : World) : Prop :=
  (∃ cs : Array Value, IsB w b 4 cs ∧ ∀ u, u < n → cs[u]? = some (.bool (F u))) ∧ W.heap.size ≤ b ∧ W.grownBy w none
theorem BW.keep0 {W w w2 : World} {b n : Nat} {F : Nat → Bool} (h : BW W b n F w) (k : w.grownBy w2 none) : BW W b n F w2 := by
  obtain ⟨⟨cs, h1, h2⟩, h3, h4⟩ := h
  exact ⟨⟨cs, h1.keep0 k, h2⟩, h3, gb_trans h4 k⟩
theorem BW.lt {W w : World} {b n : Nat} {F : Nat → Bool} (h : BW W b n F w) : b < w.heap.size := by
  obtain ⟨⟨cs, h1, h2⟩, h3, h4⟩ := h
  exact h1.lt
theorem BW.is {W w : World} {b n : Nat} {F F2 : Nat → Bool} (h : BW W b n F w) (e : ∀ u, u < n → F u = F2 u) : BW W b n F2 w := by
  obtain ⟨⟨cs, h1, h2⟩, h3, h4⟩ := h
  exact ⟨⟨cs, h1, fun u hu => by rw [← e u hu]; exact h2 u hu⟩, h3, h4⟩
theorem BW.at_ {W w : World} {b n : Nat} {F : Nat → Bool} (h : BW W b n F w) (u : Nat) (hu : u < n) : w.cell? ⟨b, u, none⟩ = some (.bool (F u)) := by
  obtain ⟨⟨cs, h1, h2⟩, h3, h4⟩ := h
  rw [h1.cell]; exact h2 u hu
theorem BW.free {W w : World} {b n : Nat} {F : Nat → Bool} (h : BW W b n F w) (i : Nat) : w.frozen? ⟨b, i, none⟩ = false := by
  obtain ⟨⟨cs, h1, h2⟩, h3, h4⟩ := h
  exact h1.free i
theorem BW.put {W w : World} {b n : Nat} {F : Nat → Bool} (h : BW W b n F w) (u : Nat) (x : Bool) :
    BW W b n (fun v => if v = u then x else F v) (w.setCell ⟨b, u, none⟩ (.bool x)) := by
  obtain ⟨⟨cs, h1, h2⟩, h3, h4⟩ := h
  refine ⟨⟨_, h1.set u (.bool x), fun v hv => ?_⟩, h3, gb_new (gb_trans (gb_any h4) (gb_set w b _ _)) h3⟩
  have l := (Array.getElem?_eq_some_iff.1 (h2 v hv)).1
  rw [Array.getElem?_setIfInBounds]
  by_cases e : v = u
  · subst e
    rw [if_pos rfl, if_pos l]
    simp
  · rw [if_neg (by omega)]
    simp only [if_neg e]
    exact h2 v hv
theorem BW.far {W w : World} {b n g : Nat} {F : Nat → Bool} (h : BW W b n F w) (hg : b ≠ g) (hW : W.heap.size ≤ g) (i : Nat) (u : Value) : BW W b n F (w.setCell ⟨g, i, none⟩ u) := by
  obtain ⟨⟨cs, h1, h2⟩, h3, h4⟩ := h
  exact ⟨⟨cs, h1.set_far hg i u, h2⟩, h3, gb_new (gb_trans (gb_any h4) (gb_set w g i u)) hW⟩
theorem made_bools {W w : World} {n cap : Nat} (h : w.ownsRow W.heap.size 4 1 (.slice (some ⟨cap, 0, none⟩) n n) n (madeCells #[Value.bool false] n).toList) (W0 : World) (hW : W0.heap.size ≤ W.heap.size) (g : W0.grownBy w none) : BW W0 cap n (fun _ => false) w := by
  obtain ⟨o1, o2⟩ := own_full h
  refine ⟨⟨_, o1, fun u hu => ?_⟩, by omega, g⟩
  simp [madeCells, hu, Nat.mod_one]
/-- The two rows in column j, row k. -/
def fv (g : List (List Int)) (i j k u : Nat) : Bool × Bool := if u < j then frF g i u else if u = j then fr g i (k - i) u else (decide (u = i), false)
theorem fv_start (g : List (List Int)) (i u : Nat) : fv g i (i + 1) i u = (decide (u = i), false) := by
  unfold fv
  by_cases h : u < i + 1
  · rw [if_pos h, frF_low (by omega)]
  · rw [if_neg h]
    split
    · rw [show i - i = 0 by omega]; rfl
    · rfl
theorem fv_next (g : List (List Int)) (i j u : Nat) : fv g i j j u = fv g i (j + 1) i u := by
  unfold fv
  by_cases h : u < j
  · rw [if_pos h, if_pos (by omega)]
  · rw [if_neg h]
    by_cases e : u = j
    · subst e; rw [if_pos rfl, if_pos (by omega)]; rfl
    · rw [if_neg e, if_neg (by omega)]
      split
      · rw [show i - i = 0 by omega]; rfl
      · rfl
theorem fv_end {g : List (List Int)} {i n u : Nat} (h : u < n) (k : Nat) : fv g i n k u = frF g i u := by unfold fv; rw [if_pos h]
theorem fv_low {g : List (List Int)} {i j k : Nat} (h : k < j) : fv g i j k k = fr g i (k - i) k := by unfold fv; rw [if_pos h]; rfl
theorem fv_at (g : List (List Int)) (i j k : Nat) : fv g i j k j = fr g i (k - i) j := by unfold fv; rw [if_neg (Nat.lt_irrefl j), if_pos rfl]
theorem fr_step {g : List (List Int)} {i j k : Nat} (h : i ≤ k) (hc : ¬ ((fr g i (k - i) k).1 = true ∧ dp g k j ≠ 0)) : fr g i (k + 1 - i) j = fr g i (k - i) j := by
  rw [show k + 1 - i = (k - i) + 1 by omega]
  exact fr_skip (by rw [show i + (k - i) = k by omega]; exact hc)
theorem fr_set {g : List (List Int)} {i j k : Nat} (h : i ≤ k) (h1 : (fr g i (k - i) k).1 = true) (h2 : dp g k j ≠ 0) : fr g i (k + 1 - i) j = (true, (fr g i (k - i) j).2 || (fr g i (k - i) k).2 || decide (dp g k j = 2)) := by
  rw [show k + 1 - i = (k - i) + 1 by omega, fr_yes (by rw [show i + (k - i) = k by omega]; exact h1) (by rw [show i + (k - i) = k by omega]; exact h2), show i + (k - i) = k by omega]
theorem fv_skip {g : List (List Int)} {i j k : Nat} (e : fr g i (k + 1 - i) j = fr g i (k - i) j) (u : Nat) : fv g i j k u = fv g i j (k + 1) u := by
  unfold fv
  split
  · rfl
  · split
    · rename_i h; subst h; exact e.symm
    · rfl
theorem fv_put {g : List (List Int)} {i j k : Nat} {x : Bool × Bool} (e : fr g i (k + 1 - i) j = x) (u : Nat) : (if u = j then x else fv g i j k u) = fv g i j (k + 1) u := by
  unfold fv
  by_cases h : u = j
  · subst h; rw [if_pos rfl, if_neg (Nat.lt_irrefl u), if_pos rfl, e]
  · rw [if_neg h, if_neg h, if_neg h]
end Go.Proofs.Ytcbomfcioenliaa
