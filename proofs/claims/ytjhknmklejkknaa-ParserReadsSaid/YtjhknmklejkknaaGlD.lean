/- Several texts in one: HdP, HdF, HdA, HdB, HdC, HdD, HdE, HdG, HdH. -/
import Derived.Test.YtjhknmklejkknaaHdI
import Derived.Test.YtjhknmklejkknaaGlB
import Derived.Test.YtjhknmklejkknaaGlC
import Derived.Deep.SlicePairs
import Derived.ChangeMaps5
import Derived.Deep.RegionWith
import Derived.Deep.RegionHeld3
section
namespace Go.Proofs.Ytjhknmklejkknaa
open Go.RowKit
set_option linter.unusedVariables false

def eqS (s t : ByteArray) : Bool := s.toList == t.toList
def isI (s : ByteArray) : Bool := Lx.isId (Lx.bytesI s)
def hasNm (L : List Fld) (s : ByteArray) : Bool := L.any fun p => eqS p.1 s
def fIdx (L : List Fld) (s : ByteArray) : Nat := if hasNm L s = true then L.findIdx (fun p => eqS p.1 s) else 0
/-- The error of field i. -/
def chkF (L : List Fld) (i : Nat) : Int :=
  if isI (L.getD i fz).1 = false then 6 else if ¬ (1 ≤ (L.getD i fz).2 ∧ (L.getD i fz).2 ≤ 32) then 10 else if hasNm (L.take i) (L.getD i fz).1 = true then 7 else 0
/-- The first error of the first fields. -/
def errs (L : List Fld) : Nat → Int
  | 0 => 0
  | k + 1 => if errs L k = 0 then chkF L k else errs L k
def wsL (L : List Fld) : List Int := L.map (·.2)
def isum : List Int → Int
  | [] => 0
  | n :: t => n + isum t
def chkH (s : ByteArray) (L : List Fld) : Int :=
  if isI s = false then 6 else if L.length = 0 then 8 else if 12 < L.length then 12 else if errs L L.length = 0 then (if isum (wsL L) % 8 = 0 then 0 else 10) else errs L L.length
def bitsH (s : ByteArray) (L : List Fld) : Int := if chkH s L = 0 then isum (wsL L) else 0
theorem isum_app (l m : List Int) : isum (l ++ m) = isum l + isum m := by
  induction l with
  | nil => simp [isum]
  | cons n t ih => simp only [List.cons_append, isum, ih]; omega
theorem isum_step (l : List Int) (k : Nat) (h : k < l.length) : isum (l.take (k + 1)) = isum (l.take k) + l.getD k 0 := by
  rw [List.take_add_one, isum_app]
  simp [h, isum]
theorem isum_good (l : List Int) (h : goodL l) : isum l = (sumL l : Int) ∧ 0 ≤ isum l ∧ isum l ≤ 32 * l.length := by
  induction l with
  | nil => simp [isum, sumL]
  | cons n t ih =>
    obtain ⟨hn, ht⟩ := goodL_tail h
    obtain ⟨h1, h2, h3⟩ := ih ht
    simp only [isum, sumL, List.length_cons]
    omega
theorem goodL_take (l : List Int) (k : Nat) (h : goodL l) : goodL (l.take k) := fun n hn => h n (List.mem_of_mem_take hn)
theorem wsL_len (L : List Fld) : (wsL L).length = L.length := by simp [wsL]
theorem wsL_get (L : List Fld) (i : Nat) (h : i < L.length) : (wsL L).getD i 0 = (L.getD i fz).2 := by simp [wsL, h]
theorem errs_zero (L : List Fld) (n : Nat) (h : errs L n = 0) : ∀ i, i < n → chkF L i = 0 := by
  induction n with
  | zero => intro i hi; omega
  | succ n ih =>
    intro i hi
    unfold errs at h
    by_cases e : errs L n = 0
    · rw [if_pos e] at h
      rcases (show i < n ∨ i = n by omega) with q | rfl
      · exact ih e i q
      · exact h
    · rw [if_neg e] at h; exact absurd h e
theorem errs_keep (L : List Fld) (k : Nat) (h : ¬ errs L k = 0) : ∀ n, k ≤ n → errs L n = errs L k := by
  intro n
  induction n with
  | zero => intro hn; obtain rfl : k = 0 := by omega
            rfl
  | succ n ih =>
    intro hn
    rcases (show k ≤ n ∨ k = n + 1 by omega) with q | rfl
    · show (if errs L n = 0 then _ else _) = _
      rw [ih q, if_neg h]
    · rfl
theorem errs_first (L : List Fld) (k n : Nat) (hk : k < n) (h : errs L k = 0) (e : ¬ chkF L k = 0) : errs L n = chkF L k := by
  have h1 : errs L (k + 1) = chkF L k := by show (if errs L k = 0 then _ else _) = _; rw [if_pos h]
  rw [errs_keep L (k + 1) (by rw [h1]; exact e) n (by omega), h1]
theorem errs_next (L : List Fld) (k : Nat) (h : errs L k = 0) (e : chkF L k = 0) : errs L (k + 1) = 0 := by
  show (if errs L k = 0 then _ else _) = _; rw [if_pos h]; exact e
theorem chkF_wid (L : List Fld) (i : Nat) (h : chkF L i = 0) : 1 ≤ (L.getD i fz).2 ∧ (L.getD i fz).2 ≤ 32 := by
  unfold chkF at h
  split at h
  · cases h
  · split at h
    · cases h
    · rename_i q; exact Classical.not_not.1 q
theorem good_errs (L : List Fld) (h : errs L L.length = 0) : goodL (wsL L) := by
  intro n hn
  obtain ⟨j, hj, rfl⟩ := List.mem_iff_getElem.1 hn
  have hj2 : j < L.length := by rw [← wsL_len]; exact hj
  have k := chkF_wid L j (errs_zero L _ h j hj2)
  rw [← wsL_get L j hj2] at k
  simpa [hj] using k
theorem chk_ok (s : ByteArray) (L : List Fld) (h : chkH s L = 0) : 0 < L.length ∧ L.length ≤ 12 ∧ errs L L.length = 0 ∧ isum (wsL L) % 8 = 0 ∧ goodL (wsL L) := by
  unfold chkH at h
  split at h
  · cases h
  · split at h
    · cases h
    · split at h
      · cases h
      · split at h
        · split at h
          · rename_i a b c d e
            exact ⟨by omega, by omega, d, e, good_errs L d⟩
          · cases h
        · rename_i q; exact absurd h q
theorem find_at (L : List Fld) (s : ByteArray) (j : Nat) (hj : j < L.length) (h0 : hasNm (L.take j) s = false) (h1 : eqS (L.getD j fz).1 s = true) : hasNm L s = true ∧ fIdx L s = j := by
  have e : L.getD j fz = L[j] := by simp [hj]
  have hb : hasNm L s = true := by
    unfold hasNm
    rw [List.any_eq_true]
    exact ⟨L[j], List.getElem_mem hj, by rw [← e]; exact h1⟩
  refine ⟨hb, ?_⟩
  unfold fIdx
  rw [if_pos hb, List.findIdx_eq hj]
  refine ⟨by rw [← e]; exact h1, ?_⟩
  intro k hk
  unfold hasNm at h0
  rw [List.any_eq_false] at h0
  have := h0 L[k] (List.mem_take_iff_getElem.2 ⟨k, by omega, rfl⟩)
  simpa using this
theorem find_no (L : List Fld) (s : ByteArray) (h : hasNm L s = false) : fIdx L s = 0 := by unfold fIdx; rw [h]; simp
theorem find_lt (L : List Fld) (s : ByteArray) (h : hasNm L s = true) : fIdx L s < L.length := by
  unfold fIdx
  rw [if_pos h]
  unfold hasNm at h
  rw [List.any_eq_true] at h
  obtain ⟨x, hx, hp⟩ := h
  exact List.findIdx_lt_length_of_exists ⟨x, hx, hp⟩
theorem nm_take (L : List Fld) (s : ByteArray) (j : Nat) (h : j < L.length) : hasNm (L.take (j + 1)) s = (hasNm (L.take j) s || eqS (L.getD j fz).1 s) := by
  unfold hasNm
  rw [List.take_add_one, List.any_append]
  simp [h]
/-- Field i's name stands at an earlier place just if the first place of it is before i. -/
theorem find_dup (L : List Fld) (i : Nat) (hi : i < L.length) : (hasNm (L.take i) (L.getD i fz).1 = true ↔ fIdx L (L.getD i fz).1 < i) := by
  have e : L.getD i fz = L[i] := by simp [hi]
  have hb : hasNm L (L.getD i fz).1 = true := by
    unfold hasNm
    rw [List.any_eq_true]
    exact ⟨L[i], List.getElem_mem hi, by rw [e]; unfold eqS; exact beq_self_eq_true _⟩
  constructor
  · intro h
    unfold hasNm at h
    rw [List.any_eq_true] at h
    obtain ⟨x, hx, hp⟩ := h
    obtain ⟨k, hk, rfl⟩ := List.mem_iff_getElem.1 hx
    rw [List.length_take] at hk
    unfold fIdx
    rw [if_pos hb]
    refine Nat.lt_of_le_of_lt (m := k) ?_ (by omega)
    refine Classical.byContradiction fun hn => ?_
    have := List.not_of_lt_findIdx (p := fun p : Fld => eqS p.1 (L.getD i fz).1) (xs := L) (i := k) (by omega)
    rw [List.getElem_take] at hp
    rw [hp] at this
    cases this
  · intro h
    have hl := find_lt L _ hb
    unfold fIdx at h hl
    rw [if_pos hb] at h hl
    unfold hasNm
    rw [List.any_eq_true]
    refine ⟨L[L.findIdx fun p => eqS p.1 (L.getD i fz).1], List.mem_take_iff_getElem.2 ⟨_, by omega, rfl⟩, ?_⟩
    exact List.findIdx_getElem (w := hl)
/-- The bits of bytes, one byte after the other. -/
def bytesBits : List Int → List Bool
  | [] => []
  | b :: t => bitsOf b 8 ++ bytesBits t
theorem bytesBits_app (l m : List Int) : bytesBits (l ++ m) = bytesBits l ++ bytesBits m := by
  induction l with
  | nil => rfl
  | cons b t ih => simp only [List.cons_append, bytesBits, ih, List.append_assoc]
theorem wrStep_app (B L : List Bool) (v n : Int) : wrStep (B ++ L) v n = ((wrStep L v n).1, if (wrStep L v n).1 = 0 then B ++ (wrStep L v n).2 else B ++ L) := by
  unfold wrStep
  split
  · split
    · simp
    · simp
  · simp
theorem pkRun_app (B : List Bool) (ps : List (Int × Int)) : ∀ L, (pkRun (B ++ L) ps).1 = (pkRun L ps).1 ∧ ((pkRun L ps).1 = 0 → (pkRun (B ++ L) ps).2 = B ++ (pkRun L ps).2) := by
  induction ps with
  | nil => intro L; simp [pkRun]
  | cons p t ih =>
    intro L
    obtain ⟨v, n⟩ := p
    unfold pkRun
    rw [wrStep_app]
    by_cases h : (wrStep L v n).1 = 0
    · simp only [h, if_true]
      exact ih _
    · simp only [h, if_false]
      simp
theorem pkRun_good_len (l : List Int) (hg : goodL l) : ∀ (vals : List Int) (L : List Bool), vals.length = l.length → (pkRun L (vals.zip l)).1 = 0 → (pkRun L (vals.zip l)).2.length = L.length + sumL l := by
  induction l with
  | nil => intro vals L hl _; simp [pkRun, sumL]
  | cons n t ih =>
    intro vals L hl h
    obtain ⟨hn, ht⟩ := goodL_tail hg
    cases vals with
    | nil => simp at hl
    | cons v vt =>
      simp only [List.zip_cons_cons] at h ⊢
      unfold pkRun at h ⊢
      by_cases e : (wrStep L v n).1 = 0
      · rw [if_pos e] at h ⊢
        rw [ih ht vt _ (by simpa using hl) h]
        have : (wrStep L v n).2.length = L.length + n.toNat := by
          unfold wrStep at *
          rw [if_pos (show okW n = true from decide_eq_true hn)] at *
          split
          · simp [bitsOf_len]
          · rename_i q; rw [if_neg q] at e; cases e
        rw [this]; simp only [sumL]; omega
      · rw [if_neg e] at h; exact absurd h e
theorem list_bits (L : List Bool) (q : Nat) (h : L.length = 8 * q) : bytesBits (packB L) = L := by
  have hb := packB_range L
  have hl : (packB L).length = q := by rw [packB_len]; omega
  have h1 : bitsTo (packB L) (8 * q) = L := by
    apply List.ext_getElem
    · rw [bitsTo_len, h]
    · intro i h2 h3
      have k := bit_pack L i h3
      simp only [bitsTo, List.getElem_map, List.getElem_range]
      rw [k]
      unfold bv
      simp [h3]
  have h2 : ∀ (bs : List Int), (∀ b ∈ bs, 0 ≤ b ∧ b ≤ 255) → ∀ m, m ≤ bs.length → bytesBits (bs.take m) = bitsTo bs (8 * m) := by
    intro bs hbs m
    induction m with
    | zero => intro _; rfl
    | succ m ih =>
      intro hm
      have ht : bs.take (m + 1) = bs.take m ++ [bs.getD m 0] := by rw [List.take_add_one]; simp [show m < bs.length by omega]
      rw [ht, bytesBits_app, ih (by omega), show 8 * (m + 1) = 8 * m + 8 by omega, bitsTo_add]
      congr 1
      have hx := hbs (bs.getD m 0) (by simp [show m < bs.length by omega])
      have e : accB bs (8 * m) 8 = bs.getD m 0 := by
        refine acc_of _ _ _ _ hx.1 (by have := hx.2; omega) ?_
        intro i hi
        unfold bitAt
        rw [show (8 * m + i) / 8 = m by omega, show (8 * m + i) % 8 = i by omega, show 8 - 1 - i = 7 - i by omega]
      rw [e]
      simp [bytesBits]
  have h3 := h2 (packB L) hb q (by omega)
  rw [List.take_of_length_le (by omega)] at h3
  rw [h3, h1]
end Go.Proofs.Ytjhknmklejkknaa
end
section
namespace Go.Proofs.Ytjhknmklejkknaa
open Go.ChangeShapes Go.WideShapes Go.ChangeAt Go.RowKit Go.Joins Go.Deep
set_option linter.unusedVariables false

theorem sf_some {w : World} {a : Option Addr} {n c : Nat} {L : List Fld} (h : SF w a n c L) (hn : 0 < n) : ∃ ad, a = some ad := by
  cases a with
  | none => have := (h.nil rfl).1; omega
  | some ad => exact ⟨ad, rfl⟩
/-- The first fields alone. -/
theorem SF.cut {w : World} {a : Option Addr} {n c : Nat} {L : List Fld} (h : SF w a n c L) (m : Nat) (hm : m ≤ n) : SF w a m c (L.take m) := by
  have hl := h.len
  refine ⟨by simp; omega, fun e => ⟨by have := (h.nil e).1; omega, (h.nil e).2⟩, by have := h.cap; omega, fun ad e j hj => ?_⟩
  have e : (L.take m).getD j fz = L.getD j fz := by simp [hj]
  rw [e]
  exact h.cells ad ‹_› j (by omega)
variable {H : Type} {enc : TypeId × Value → H} {P : Program} {w : World}
end Go.Proofs.Ytjhknmklejkknaa
end
section
namespace Go.Proofs.Ytjhknmklejkknaa
open Go.RowKit
set_option linter.unusedVariables false

/-- The call returns v and the world only grows. -/
def RetG (v : Value) (w : World) (e : Ending) (w' : World) : Prop := e = .returned v ∧ w.grownBy w' none
theorem isI_any (w : World) (s : ByteArray) (hs : s.size ≤ 9223372036854775807) : Calls Try.prog 69 #[.string s] w (RetG (.bool (isI s)) w) := by
  have h := Lx.isIdent_any w (Lx.bytesI s) (Lx.bytesI_range s) (by rw [Lx.bytesI_len]; exact hs)
  rw [Lx.bytesI_str] at h
  exact h.mono fun e w' ⟨he, hw⟩ => ⟨he, by rw [hw]; exact gb_refl _ _⟩
theorem risI_any (w : World) (s : ByteArray) (hs : s.size ≤ 9223372036854775807) : Calls Try.prog 55 #[.string s] w (RetG (.bool (isI s)) w) := by
  have h := Lx.risIdent_any w (Lx.bytesI s) (Lx.bytesI_range s) (by rw [Lx.bytesI_len]; exact hs)
  rw [Lx.bytesI_str] at h
  exact h.mono fun e w' ⟨he, hw⟩ => ⟨he, by rw [hw]; exact gb_refl _ _⟩
theorem ret_ib2 {k : IntKind} {a b : Int} {c d : Bool} (h : a = b) (g : c = d) : Ending.returned (.tuple #[.int k a, .bool c]) = .returned (.tuple #[.int k b, .bool d]) := by rw [h, g]
set_option maxRecDepth 100000 in
set_option maxHeartbeats 4000000 in
theorem rfind_any (w : World) (hs : ByteArray) (a : Option Addr) (n c : Nat) (L : List Fld) (s : ByteArray) (h : SF w a n c L) (hn : n ≤ 100000) :
    Calls Try.prog 56 #[.agg #[.string hs, .slice a n c], .string s] w (RetG (.tuple #[.int .i64 (fIdx L s), .bool (hasNm L s)]) w) := by
  have HH := Lib.hid h
  obtain ⟨r1, e1⟩ : ∃ r, r = ((fIdx L s : Nat) : Int) := ⟨_, rfl⟩
  obtain ⟨r2, e2⟩ : ∃ r, r = hasNm L s := ⟨_, rfl⟩
  rw [← e1, ← e2]
  have HE1 := Lib.hid e1
  have HE2 := Lib.hid e2
  clear h e1 e2
  go_enter Try.func56, Try.ntmps56
  go_wp2
  go_loopw [6] (fun i wr => ∃ j : Nat, j ≤ n ∧ i = .int .i64 j ∧ hasNm (L.take j) s = false ∧ (w.alloc (.cells #[.string hs, .slice a n c] 66)).grownBy wr none) (fun i _ => n - (intOf i).toNat)
  case atStart => exact ⟨0, Nat.zero_le _, rfl, rfl, gb_refl _ _⟩
  case round =>
    obtain ⟨j, hj, rfl, ht, hg⟩ := hrel
    have HT := Lib.hid ht
    have HG := Lib.hid hg
    have B := (IsB.new w 66 #[.string hs, .slice a n c]).keep0 hg
    have b0 := B.cell 0
    have b1 := B.cell 1
    clear ht hg B
    simp at b0 b1
    by_cases hlt : j < n
    · obtain ⟨ad, rfl⟩ := sf_some HH.out (by omega)
      have i1 : (j : Int) < n := by omega
      have i0 : (0 : Int) ≤ (j : Int) := by omega
      have hl : j < L.length := by rw [HH.out.len]; exact hlt
      obtain ⟨c0, c1⟩ := (HH.out.keep0 (gb_trans (gb_alloc w _ none) HG.out)).cells ad rfl j hlt
      have ST := Lib.hid (nm_take L s j hl)
      have YES := Lib.hid (find_at L s j hl HT.out)
      obtain ⟨p, hp⟩ : ∃ p, p = L.getD j fz := ⟨_, rfl⟩
      rw [← hp] at c0 c1 ST YES
      obtain ⟨v, m⟩ := p
      clear hp hl
      cases hh : eqS v s
      · have S2 := Lib.hid (show hasNm (L.take (j + 1)) s = false by rw [ST.out, HT.out]; exact hh)
        unfold eqS at hh
        clear ST YES
        go_wp2
        go_roundw
        case rel => exact ⟨j + 1, by omega, by go_num, S2.out, HG.out⟩
        case measure => simp [intOf]; omega
      · have Y := Lib.hid (YES.out hh)
        unfold eqS at hh
        clear ST YES
        go_wp2
        go_ret2
        exact ⟨ret_ib2 (by rw [HE1.out, Y.out.2]) (by rw [HE2.out, Y.out.1]), gb_trans (gb_alloc w _ none) HG.out⟩
    · have hje : j = n := by omega
      have R2 := Lib.hid (show hasNm L s = false by have := HT.out; rwa [List.take_of_length_le (by rw [HH.out.len]; omega)] at this)
      subst hje
      go_wp2
      go_ret2
      exact ⟨ret_ib2 (by rw [HE1.out, find_no L s R2.out]; rfl) (by rw [HE2.out, R2.out]), gb_trans (gb_alloc w _ none) HG.out⟩
end Go.Proofs.Ytjhknmklejkknaa
end
section
namespace Go.Proofs.Ytjhknmklejkknaa
open Go.RowKit
set_option linter.unusedVariables false

set_option maxRecDepth 100000 in
set_option maxHeartbeats 4000000 in
theorem find_any (w : World) (hs : ByteArray) (a : Option Addr) (n c : Nat) (L : List Fld) (s : ByteArray) (h : SF w a n c L) (hn : n ≤ 100000) :
    Calls Try.prog 124 #[.agg #[.string hs, .slice a n c], .string s] w (RetG (.tuple #[.int .i64 (fIdx L s), .bool (hasNm L s)]) w) := by
  have HH := Lib.hid h
  obtain ⟨r1, e1⟩ : ∃ r, r = ((fIdx L s : Nat) : Int) := ⟨_, rfl⟩
  obtain ⟨r2, e2⟩ : ∃ r, r = hasNm L s := ⟨_, rfl⟩
  rw [← e1, ← e2]
  have HE1 := Lib.hid e1
  have HE2 := Lib.hid e2
  clear h e1 e2
  go_enter Try.func124, Try.ntmps124
  go_wp2
  go_loopw [11] (fun i wr => ∃ j : Nat, j ≤ n ∧ i = .int .i64 j ∧ hasNm (L.take j) s = false ∧ (w.alloc (.cells #[.string hs, .slice a n c] 66)).grownBy wr none) (fun i _ => n - (intOf i).toNat)
  case atStart => exact ⟨0, Nat.zero_le _, rfl, rfl, gb_refl _ _⟩
  case round =>
    obtain ⟨j, hj, rfl, ht, hg⟩ := hrel
    have HT := Lib.hid ht
    have HG := Lib.hid hg
    clear ht hg
    by_cases hlt : j < n
    · obtain ⟨ad, rfl⟩ := sf_some HH.out (by omega)
      have i1 : (j : Int) < n := by omega
      have i0 : (0 : Int) ≤ (j : Int) := by omega
      have hl : j < L.length := by rw [HH.out.len]; exact hlt
      obtain ⟨c0, c1⟩ := (HH.out.keep0 (gb_trans (gb_alloc w _ none) HG.out)).cells ad rfl j hlt
      have ST := Lib.hid (nm_take L s j hl)
      have YES := Lib.hid (find_at L s j hl HT.out)
      obtain ⟨p, hp⟩ : ∃ p, p = L.getD j fz := ⟨_, rfl⟩
      rw [← hp] at c0 c1 ST YES
      obtain ⟨v, m⟩ := p
      clear hp hl
      have hm : (m == m) = true := by simp
      cases hh : eqS v s
      · have S2 := Lib.hid (show hasNm (L.take (j + 1)) s = false by rw [ST.out, HT.out]; exact hh)
        unfold eqS at hh
        clear ST YES
        go_wp2
        go_roundw
        case rel => exact ⟨j + 1, by omega, by go_num, S2.out, gb_trans HG.out (gb_alloc _ _ _)⟩
        case measure => simp [intOf]; omega
      · have Y := Lib.hid (YES.out hh)
        unfold eqS at hh
        clear ST YES
        go_wp2
        go_ret2
        exact ⟨ret_ib2 (by rw [HE1.out, Y.out.2]) (by rw [HE2.out, Y.out.1]), gb_trans (gb_alloc w _ none) (gb_trans HG.out (gb_alloc _ _ _))⟩
    · have hje : j = n := by omega
      have R2 := Lib.hid (show hasNm L s = false by have := HT.out; rwa [List.take_of_length_le (by rw [HH.out.len]; omega)] at this)
      subst hje
      go_wp2
      go_ret2
      exact ⟨ret_ib2 (by rw [HE1.out, find_no L s R2.out]; rfl) (by rw [HE2.out, R2.out]), gb_trans (gb_alloc w _ none) HG.out⟩
end Go.Proofs.Ytjhknmklejkknaa
end
section
namespace Go.Proofs.Ytjhknmklejkknaa
open Go.RowKit
set_option linter.unusedVariables false

theorem ck_c {w0 w1 w2 : World} {t1 t2 : TypeId} {x y u v : Value} (h : ((w0.alloc (.cells #[x, y] t1)).alloc (.cells #[u, v] t2)).grownBy w2 none) :
    w2.cell? ⟨w0.heap.size, 1, none⟩ = some y ∧ w2.cell? ⟨w0.heap.size + 1, 0, none⟩ = some u ∧ ((w0.alloc (.cells #[x, y] t1)).alloc (.cells #[u, v] t2)).grownBy w2 none := by
  have b1 := ((IsB.new w0 t1 #[x, y]).alloc (.cells #[u, v] t2)).keep0 h
  have b2 := (IsB.new (w0.alloc (.cells #[x, y] t1)) t2 #[u, v]).keep0 h
  have e : (w0.alloc (.cells #[x, y] t1)).heap.size = w0.heap.size + 1 := by simp
  rw [e] at b2
  exact ⟨b1.cell 1, b2.cell 0, h⟩
set_option maxRecDepth 100000 in
set_option maxHeartbeats 4000000 in
theorem chkF_any (w : World) (hs : ByteArray) (a : Option Addr) (n c : Nat) (L : List Fld) (i : Nat) (h : SF w a n c L) (hn : n ≤ 1000) (hi : i < n) (hz : ∀ p ∈ L, p.1.size ≤ 9223372036854775807) :
    Calls Try.prog 96 #[.agg #[.string hs, .slice a n c], .int .i64 i] w (RetG (.int .i64 (chkF L i)) w) := by
  obtain ⟨ad, rfl⟩ := sf_some h (by omega)
  obtain ⟨c0, c1⟩ := (h.keep0 (gb_alloc w (.cells #[.string hs, .slice (some ad) n c] 66) none)).cells ad rfl i hi
  have hl : i < L.length := by rw [h.len]; exact hi
  have i0 : (i : Int) < n := by omega
  have i1 : (0 : Int) ≤ (i : Int) := by omega
  have hcap := h.cap
  have i2 : (i : Int) ≤ c := by omega
  have HE := Lib.hid (show chkF L i = if isI (L.getD i fz).1 = false then 6 else if ¬ (1 ≤ (L.getD i fz).2 ∧ (L.getD i fz).2 ≤ 32) then 10 else if hasNm (L.take i) (L.getD i fz).1 = true then 7 else 0 from rfl)
  obtain ⟨r, hr⟩ : ∃ r, r = chkF L i := ⟨_, rfl⟩
  rw [← hr] at HE ⊢
  have hzi := hz (L.getD i fz) (by simp [hl])
  obtain ⟨p, hp⟩ : ∃ p, p = L.getD i fz := ⟨_, rfl⟩
  rw [← hp] at c0 c1 HE hzi
  obtain ⟨v, m⟩ := p
  have HI := Lib.hid (fun w => isI_any w v hzi)
  have HF := Lib.hid (fun (w' : World) (x : ByteArray) (g : w.grownBy w' none) => find_any w' x (some ad) i c (L.take i) v ((h.keep0 g).cut i (by omega)) (by omega))
  clear hp hl hr h hz hzi
  cases hv : isI v
  · have HX := Lib.hid (show r = 6 by have := HE.out; rw [if_pos hv] at this; exact this)
    rw [hv] at HI
    clear hv HE HF
    go_enter Try.func96, Try.ntmps96
    go_wp2_with fail
    refine (HI.out _).mono ?_
    rintro e w2 ⟨rfl, g2⟩
    have G2 := Lib.hid (gb_trans (gb_trans (gb_alloc w _ none) (gb_alloc _ _ none)) g2)
    clear g2
    go_wp2
    go_ret
    exact ⟨by rw [HX.out] <;> rfl, G2.out⟩
  · rw [hv] at HI
    by_cases hm : 1 ≤ m ∧ m ≤ 32
    · obtain ⟨m1, m2⟩ := hm
      have HX := Lib.hid (show r = if hasNm (L.take i) v = true then 7 else 0 by have := HE.out; rw [if_neg (by rw [hv]; decide), if_neg (by omega)] at this; exact this)
      clear hv HE
      obtain ⟨f1, hf1⟩ : ∃ f, f = ((fIdx (L.take i) v : Nat) : Int) := ⟨_, rfl⟩
      obtain ⟨f2, hf2⟩ : ∃ f, f = hasNm (L.take i) v := ⟨_, rfl⟩
      rw [← hf1, ← hf2] at HF
      rw [← hf2] at HX
      clear hf1 hf2
      go_enter Try.func96, Try.ntmps96
      go_wp2_with fail
      refine (HI.out _).mono ?_
      rintro e w2 ⟨rfl, g2⟩
      have hc2 := ck_c (w1 := w) g2
      obtain ⟨d1, d2, d3⟩ := hc2
      have b3 := (IsB.new (w.alloc (.cells #[.string hs, .slice (some ad) n c] 66)) 94 #[.string v, .int .i64 m]).keep0 g2
      have b4 := b3.cell 1
      rw [show (w.alloc (.cells #[.string hs, .slice (some ad) n c] 66)).heap.size = w.heap.size + 1 by simp] at b4
      have G2 := Lib.hid (gb_trans (gb_trans (gb_alloc w _ none) (gb_alloc _ _ none)) g2)
      have G3 := Lib.hid g2
      clear g2 b3 d3
      have HF2 := Lib.hid (fun x => HF.out w2.drew x (gb_trans G2.out (gb_drew _ none)))
      simp at b4
      go_wp2_with fail
      go_region_held3 (fun w' => w'.cell? ⟨w.heap.size, 1, none⟩ = some (.slice (some ad) n c) ∧ w'.cell? ⟨w.heap.size + 1, 0, none⟩ = some (.string v) ∧ ((w.alloc (.cells #[.string hs, .slice (some ad) n c] 66)).alloc (.cells #[.string v, .int .i64 m] 94)).grownBy w' none)
        (first | exact ck_c (w1 := w) (gb_trans G3.out (gb_trans (gb_drew _ _) g4)) | exact ck_c (w1 := w) (gb_trans G3.out (gb_drew _ _)) | exact ck_c (w1 := w) G3.out | assumption)
        (first | (go_at_call 124; refine (HF2.out _).mono ?_; rintro e w4 ⟨rfl, g4⟩))
      rename_i hs9
      have G4 := Lib.hid (gb_trans G2.out (gb_trans (gb_drew _ _) g4))
      clear hs9 g4 HF HF2 d1 d2 b4
      cases f2
      · go_wp2
        go_ret
        exact ⟨by rw [HX.out] <;> rfl, G4.out⟩
      · go_wp2
        go_ret
        exact ⟨by rw [HX.out] <;> rfl, G4.out⟩
    · have HX := Lib.hid (show r = 10 by have := HE.out; rw [if_neg (by rw [hv]; decide), if_pos hm] at this; exact this)
      clear hv HE HF
      rcases (show m < 1 ∨ (1 ≤ m ∧ 32 < m) by omega) with k | ⟨k1, k2⟩
      all_goals
        clear hm
        go_enter Try.func96, Try.ntmps96
        go_wp2_with fail
        refine (HI.out _).mono ?_
        rintro e w2 ⟨rfl, g2⟩
        have G2 := Lib.hid (gb_trans (gb_trans (gb_alloc w _ none) (gb_alloc _ _ none)) g2)
        have b3 := (IsB.new (w.alloc (.cells #[.string hs, .slice (some ad) n c] 66)) 94 #[.string v, .int .i64 m]).keep0 g2
        have b4 := b3.cell 1
        rw [show (w.alloc (.cells #[.string hs, .slice (some ad) n c] 66)).heap.size = w.heap.size + 1 by simp] at b4
        clear g2 b3
        simp at b4
        go_wp2
        go_ret
        exact ⟨by rw [HX.out] <;> rfl, G2.out⟩
set_option maxRecDepth 100000 in
set_option maxHeartbeats 4000000 in
theorem sum_any (w : World) (a : Option Addr) (n c : Nat) (l : List Int) (h : SlR w a n c (l.map (Value.int .i64))) (hn : n ≤ 1000) (hg : goodL l) :
    Calls Try.prog 97 #[.slice a n c] w (RetG (.int .i64 (isum l)) w) := by
  have hl : l.length = n := by simpa using h.1
  have HH := Lib.hid h
  obtain ⟨r, hr⟩ : ∃ r, r = isum l := ⟨_, rfl⟩
  rw [← hr]
  have HR := Lib.hid hr
  have HG0 := Lib.hid hg
  have HL := Lib.hid hl
  clear h hr hg hl
  go_enter Try.func97, Try.ntmps97
  go_wp2
  go_loopw [8, 3] (fun i s wr => ∃ j : Nat, j ≤ n ∧ i = .int .i64 j ∧ s = .int .i64 (isum (l.take j)) ∧ w.grownBy wr none) (fun i _ _ => n - (intOf i).toNat)
  case atStart => exact ⟨0, Nat.zero_le _, rfl, rfl, gb_refl _ _⟩
  case round =>
    obtain ⟨j, hj, rfl, rfl, hg⟩ := hrel
    have HG := Lib.hid hg
    clear hg
    by_cases hlt : j < n
    · cases a with
      | none => exact absurd (HH.out.2.1 rfl).1 (by omega)
      | some ad =>
        have c1 := (HH.out.keep0 HG.out).cellAt j (by rw [HL.out]; exact hlt)
        have i1 : (j : Int) < n := by omega
        have ST := Lib.hid (isum_step l j (by rw [HL.out]; exact hlt))
        have hb := isum_good (l.take j) (goodL_take l j HG0.out)
        have hb2 := isum_good (l.take (j + 1)) (goodL_take l (j + 1) HG0.out)
        have hx : (l.take j).length = j ∧ (l.take (j + 1)).length = j + 1 := by simp; rw [HL.out]; omega
        rw [hx.1] at hb
        rw [hx.2] at hb2
        rw [ST.out] at hb2
        obtain ⟨x, hxx⟩ : ∃ x, x = l.getD j 0 := ⟨_, rfl⟩
        obtain ⟨s, hss⟩ : ∃ s, s = isum (l.take j) := ⟨_, rfl⟩
        rw [← hxx] at c1 ST hb2
        rw [← hss] at ST hb hb2 ⊢
        have b1 : 0 ≤ s + x := by omega
        have b2 : s + x ≤ 32000 := by omega
        clear hx hxx hss hb hb2
        go_wp2
        go_roundw
        case rel => exact ⟨j + 1, by omega, by go_num, by rw [ST.out], HG.out⟩
        case measure => simp [intOf]; omega
    · have hje : j = n := by omega
      have E := Lib.hid (show isum (l.take j) = r by rw [HR.out, List.take_of_length_le (by rw [HL.out]; omega)])
      subst hje
      go_wp2
      go_ret
      exact ⟨by rw [E.out] <;> rfl, HG.out⟩
end Go.Proofs.Ytjhknmklejkknaa
end
section
namespace Go.Proofs.Ytjhknmklejkknaa
open Go.RowKit
set_option linter.unusedVariables false

/-- A slice of numbers that the call owns. -/
def NL (w : World) (base : Nat) (V : Value) (L : List Int) : Prop := w.ownsRow base 3 1 V L.length (L.map (Value.int .i64))
theorem NL.keep0 {w w2 : World} {base : Nat} {V : Value} {L : List Int} (h : NL w base V L) (k : w.grownBy w2 none) : NL w2 base V L := own_keep0 h k
theorem NL.shape {w : World} {base : Nat} {V : Value} {L : List Int} (h : NL w base V L) : ∃ a c, V = .slice a L.length c := own_shape h
theorem NL.slr {w : World} {base c n : Nat} {a : Option Addr} {L : List Int} (h : NL w base (.slice a n c) L) (hn : n = L.length) : SlR w a n c (L.map (Value.int .i64)) := by subst hn; exact own_slr h
theorem NL.put {w : World} {base g n c : Nat} {L : List Int} (h : NL w base (.slice (some ⟨g, 0, none⟩) n c) L) (hn : n = L.length) (p : Nat) (v : Int) :
    NL (w.setCell ⟨g, p, none⟩ (.int .i64 v)) base (.slice (some ⟨g, 0, none⟩) n c) (L.set p v) := by
  subst hn
  have k := (World.ownsRow.stored h p (.int .i64 v)).1
  unfold NL
  rw [List.map_set, List.length_set]
  exact k
theorem NL.free {w : World} {base g n c : Nat} {L : List Int} (h : NL w base (.slice (some ⟨g, 0, none⟩) n c) L) (hn : n = L.length) (p : Nat) : w.frozen? ⟨g, p, none⟩ = false := by
  subst hn
  obtain ⟨cs, hb⟩ := own_blk h
  exact hb.free p
theorem NL.at_ {w : World} {base g n c : Nat} {L : List Int} (h : NL w base (.slice (some ⟨g, 0, none⟩) n c) L) (hn : n = L.length) (p : Nat) (hp : p < L.length) : w.cell? ⟨g, p, none⟩ = some (.int .i64 (L.getD p 0)) := by
  subst hn
  exact own_cell h p hp
/-- The call returns a row of numbers of its own; beside it the world only grew. -/
def RetN (base : Nat) (L : List Int) (w : World) (e : Ending) (w' : World) : Prop := ∃ V, e = .returned V ∧ NL w' base V L ∧ w.grownBy w' none
theorem infoI64' : (Try.prog.info? 3).map (fun i => (i.zero, i.size, i.bytes)) = some (some (.int .i64 0), 1, 8) := by kernel_rfl
/-- The first k numbers, zeros behind. -/
def upto (l : List Int) (k : Nat) : List Int := l.take k ++ List.replicate (l.length - k) 0
theorem upto_len (l : List Int) (k : Nat) (h : k ≤ l.length) : (upto l k).length = l.length := by unfold upto; simp; omega
theorem upto_zero (l : List Int) : upto l 0 = List.replicate l.length 0 := by simp [upto]
theorem upto_full (l : List Int) : upto l l.length = l := by simp [upto]
theorem upto_set (l : List Int) (k : Nat) (h : k < l.length) : (upto l k).set k (l.getD k 0) = upto l (k + 1) := by
  unfold upto
  have h1 : (l.take k).length = k := by simp; omega
  have e : l.take (k + 1) = l.take k ++ [l.getD k 0] := by rw [List.take_add_one]; simp [h]
  rw [List.set_append_right _ _ (by omega), h1, Nat.sub_self, e]
  obtain ⟨m, hm⟩ : ∃ m, l.length - k = m + 1 := ⟨l.length - k - 1, by omega⟩
  rw [hm, show l.length - (k + 1) = m by omega, List.replicate_succ, List.set_cons_zero, List.append_assoc]
  rfl
set_option maxRecDepth 100000 in
set_option maxHeartbeats 4000000 in
theorem widths_any (w : World) (hs : ByteArray) (a : Option Addr) (n c : Nat) (L : List Fld) (h : SF w a n c L) (hn : n ≤ 1000) :
    Calls Try.prog 94 #[.agg #[.string hs, .slice a n c]] w (RetN w.heap.size (wsL L) w) := by
  obtain ⟨i0, hi, hz0, hz1, hz2⟩ := info_parts infoI64'
  have HI := Lib.hid hi
  have HH := Lib.hid h
  have HL := Lib.hid (show (wsL L).length = n by rw [wsL_len, h.len])
  clear hi h
  go_enter Try.func94, Try.ntmps94
  go_wp2_with (at_make; refine wpList_make_full _ rfl _ _ 29 rfl w.heap.size 3 i0 (.int .i64 0) 1 Try.underlying29 HI.out hz0 hz1 .i64 .i64 _ _ n rfl rfl ?c1 ?c2 ?c3 ?c4 ?c5 ?_)
  case c1 => first | rfl | omega
  case c2 => first | rfl | omega
  case c3 => rw [hz2]; omega
  case c4 => unfold maxLen; omega
  case c5 => simp
  intro w2 hown hg
  have b1 := ((IsB.new w 66 #[.string hs, .slice a n c]).keep0 hg).cell 1
  have N1 := Lib.hid (show NL w2 w.heap.size (.slice (some ⟨w.heap.size + 1, 0, none⟩) n n) (upto (wsL L) 0) by
    unfold NL
    rw [upto_zero, HL.out, List.map_replicate, List.length_replicate, ← made_zero]
    first | exact hown | simpa using hown)
  have G1 := Lib.hid (gb_trans (gb_alloc w _ none) hg)
  simp at b1
  clear hown hg
  go_wp2_with fail
  go_loopw [13] (fun i wr => ∃ k : Nat, k ≤ n ∧ i = .int .i64 k ∧ NL wr w.heap.size (.slice (some ⟨w.heap.size + 1, 0, none⟩) n n) (upto (wsL L) k) ∧ w.grownBy wr none) (fun i _ => n - (intOf i).toNat)
  case atStart => exact ⟨0, Nat.zero_le _, rfl, N1.out, G1.out⟩
  case round =>
    obtain ⟨k, hk, rfl, q1, q2⟩ := hrel
    clear N1 G1 b1
    have N1 := Lib.hid q1
    have G1 := Lib.hid q2
    clear q1 q2
    by_cases hlt : k < n
    · obtain ⟨ad, rfl⟩ := sf_some HH.out (by omega)
      obtain ⟨c0, c1⟩ := (HH.out.keep0 G1.out).cells ad rfl k hlt
      have i1 : (k : Int) < n := by omega
      have i0 : (0 : Int) ≤ (k : Int) := by omega
      have hl : k < L.length := by rw [HH.out.len]; exact hlt
      have HW := Lib.hid (wsL_get L k hl)
      have HS := Lib.hid (upto_set (wsL L) k (by rw [HL.out]; exact hlt))
      have hu := upto_len (wsL L) k (by rw [HL.out]; omega)
      rw [HL.out] at hu
      rw [HW.out] at HS
      obtain ⟨p, hp⟩ : ∃ p, p = L.getD k fz := ⟨_, rfl⟩
      rw [← hp] at c0 c1 HS
      obtain ⟨v, m⟩ := p
      have N2 := Lib.hid (show ∀ o, NL ((wr.alloc o).setCell ⟨w.heap.size + 1, k, none⟩ (.int .i64 m)) w.heap.size (.slice (some ⟨w.heap.size + 1, 0, none⟩) n n) (upto (wsL L) (k + 1)) by
        intro o
        have q := (N1.out.keep0 (gb_alloc wr o none)).put hu.symm k m
        rw [HS.out] at q
        exact q)
      have f1 := fun o => (N1.out.keep0 (gb_alloc wr o none)).free hu.symm k
      have d1 := fun o => (N1.out.keep0 (gb_alloc wr o none)).at_ hu.symm k (by rw [hu]; exact hlt)
      obtain ⟨y, hy⟩ : ∃ y, y = (upto (wsL L) k).getD k 0 := ⟨_, rfl⟩
      rw [← hy] at d1
      clear hp hl HW hu hy
      go_wp2
      go_roundw
      case rel => exact ⟨k + 1, by omega, by go_num, N2.out _, gb_new (gb_trans (gb_any (gb_trans G1.out (gb_alloc _ _ none))) (gb_set _ _ _ _)) (by omega)⟩
      case measure => simp [intOf]; omega
    · have hke : k = n := by omega
      have E := Lib.hid (show upto (wsL L) k = wsL L by rw [hke, ← HL.out, upto_full])
      rw [E.out] at N1
      subst hke
      go_wp2
      go_ret
      exact ⟨_, rfl, N1.out, G1.out⟩
end Go.Proofs.Ytjhknmklejkknaa
end
section
namespace Go.Proofs.Ytjhknmklejkknaa
open Go.RowKit
set_option linter.unusedVariables false

set_option maxRecDepth 100000 in
set_option maxHeartbeats 4000000 in
theorem check_any (w : World) (hs : ByteArray) (a : Option Addr) (n c : Nat) (L : List Fld) (h : SF w a n c L) (hn : n ≤ 1000) (hz : ∀ p ∈ L, p.1.size ≤ 9223372036854775807) (hz0 : hs.size ≤ 9223372036854775807) :
    Calls Try.prog 64 #[.agg #[.string hs, .slice a n c]] w (RetG (.int .i64 (chkH hs L)) w) := by
  have HE := Lib.hid (show chkH hs L = if isI hs = false then 6 else if L.length = 0 then 8 else if 12 < L.length then 12 else if errs L L.length = 0 then (if isum (wsL L) % 8 = 0 then 0 else 10) else errs L L.length from rfl)
  have hl := h.len
  rw [hl] at HE
  have HL := Lib.hid hl
  have HH := Lib.hid h
  have HZ := Lib.hid hz
  obtain ⟨r, hr⟩ : ∃ r, r = chkH hs L := ⟨_, rfl⟩
  rw [← hr] at HE ⊢
  have HI := Lib.hid (fun w => isI_any w hs hz0)
  have B0 := Lib.hid (fun (w' : World) (g : (w.alloc (.cells #[.string hs, .slice a n c] 66)).grownBy w' none) => (IsB.new w 66 #[.string hs, .slice a n c]).keep0 g)
  have A0 := Lib.hid (gb_alloc w (.cells #[.string hs, .slice a n c] 66) none)
  clear hl h hr hz hz0
  cases hv : isI hs
  · have HX := Lib.hid (show r = 6 by have := HE.out; rw [if_pos hv] at this; exact this)
    rw [hv] at HI
    clear hv HE
    go_enter Try.func64, Try.ntmps64
    go_wp2_with fail
    refine (HI.out _).mono ?_
    rintro e w2 ⟨rfl, g2⟩
    have G2 := Lib.hid (gb_trans A0.out g2)
    clear g2
    go_wp2
    go_ret
    exact ⟨by rw [HX.out] <;> rfl, G2.out⟩
  · rw [hv] at HI
    rw [if_neg (by rw [hv]; decide)] at HE
    clear hv
    go_enter Try.func64, Try.ntmps64
    go_wp2_with fail
    refine (HI.out _).mono ?_
    rintro e w2 ⟨rfl, g2⟩
    have b1 := (B0.out w2 g2).cell 1
    have b0 := (B0.out w2 g2).cell 0
    simp at b0 b1
    have G2 := Lib.hid g2
    clear g2
    by_cases h0 : n = 0
    · have HX := Lib.hid (show r = 8 by have := HE.out; rw [if_pos h0] at this; exact this)
      have i1 : ((n : Int) == 0) = true := by simp [h0]
      clear HE
      go_wp2
      go_ret
      exact ⟨by rw [HX.out] <;> rfl, gb_trans A0.out G2.out⟩
    · have i1 : ((n : Int) == 0) = false := by simp [h0]
      by_cases h12 : 12 < n
      · have HX := Lib.hid (show r = 12 by have := HE.out; rw [if_neg h0, if_pos h12] at this; exact this)
        have i2 : (12 : Int) < n := by omega
        clear HE
        go_wp2
        go_ret
        exact ⟨by rw [HX.out] <;> rfl, gb_trans A0.out G2.out⟩
      · have HX := Lib.hid (show r = if errs L n = 0 then (if isum (wsL L) % 8 = 0 then 0 else 10) else errs L n by have := HE.out; rw [if_neg h0, if_neg h12] at this; exact this)
        have i2 : ¬ (12 : Int) < n := by omega
        clear HE h0 h12
        go_wp2
        go_loopw [23] (fun i wr => ∃ j : Nat, j ≤ n ∧ i = .int .i64 j ∧ errs L j = 0 ∧ (w.alloc (.cells #[.string hs, .slice a n c] 66)).grownBy wr none) (fun i _ => n - (intOf i).toNat)
        case atStart => exact ⟨0, Nat.zero_le _, rfl, rfl, G2.out⟩
        case round =>
          obtain ⟨j, hj, rfl, ht, hg⟩ := hrel
          clear G2 b0 b1 i1 i2 w2
          have HT := Lib.hid ht
          have G2 := Lib.hid hg
          have b1 := (B0.out wr hg).cell 1
          have b0 := (B0.out wr hg).cell 0
          simp at b0 b1
          clear ht hg
          by_cases hlt : j < n
          · have HC := Lib.hid (chkF_any wr hs a n c L j (HH.out.keep0 (gb_trans A0.out G2.out)) hn hlt HZ.out)
            have N1 := Lib.hid (errs_next L j HT.out)
            have N2 := Lib.hid (errs_first L j n hlt HT.out)
            obtain ⟨q, hq⟩ : ∃ q, q = chkF L j := ⟨_, rfl⟩
            rw [← hq] at HC N1 N2
            have i1 : (j : Int) < n := by omega
            have i0 : (0 : Int) ≤ (j : Int) := by omega
            clear hq
            by_cases q0 : q = 0
            · subst q0
              have N3 := Lib.hid (N1.out rfl)
              clear N1 N2
              go_wp2_with fail
              refine HC.out.mono ?_
              rintro e w3 ⟨rfl, g3⟩
              have G3 := Lib.hid (gb_trans G2.out g3)
              clear g3 b0 b1
              go_wp2
              go_roundw
              case rel => exact ⟨j + 1, by omega, by go_num, N3.out, G3.out⟩
              case measure => simp [intOf]; omega
            · have d1 : (q == 0) = false := by simp [q0]
              have d2 : (q != 0) = true := by simp [q0]
              have N3 := Lib.hid (show r = q by have := HX.out; rw [N2.out q0, if_neg q0] at this; exact this)
              clear N1 N2 q0
              go_wp2_with fail
              refine HC.out.mono ?_
              rintro e w3 ⟨rfl, g3⟩
              have G3 := Lib.hid (gb_trans G2.out g3)
              clear g3 b0 b1
              go_wp2
              go_ret
              exact ⟨by rw [N3.out] <;> rfl, gb_trans A0.out G3.out⟩
          · have hje : j = n := by omega
            have HQ := Lib.hid (show r = if isum (wsL L) % 8 = 0 then 0 else 10 by have := HX.out; rw [← hje, if_pos HT.out] at this; exact this)
            have hgl := good_errs L (by rw [HL.out, ← hje]; exact HT.out)
            have HGL := Lib.hid hgl
            obtain ⟨_, s0, s1⟩ := isum_good _ hgl
            rw [wsL_len, HL.out] at s1
            have HW := Lib.hid (fun w' g => widths_any w' hs a n c L (HH.out.keep0 (gb_trans A0.out (gb_trans G2.out g))) hn)
            have HW0 := Lib.hid (HW.out wr (gb_refl _ _))
            have hwl : (wsL L).length = n := by rw [wsL_len, HL.out]
            have HWL := Lib.hid hwl
            obtain ⟨l, hll⟩ : ∃ l, l = wsL L := ⟨_, rfl⟩
            rw [← hll] at s0 s1 HQ HGL HW0 HWL
            clear hgl hll HX HW hwl
            subst hje
            go_wp2_with fail
            refine HW0.out.mono ?_
            rintro e w3 ⟨V, rfl, o3, g3⟩
            obtain ⟨a3, c3, rfl⟩ := o3.shape
            have G3 := Lib.hid (gb_trans G2.out g3)
            have HS := Lib.hid (sum_any w3 a3 _ c3 l (o3.slr rfl) (by rw [HWL.out]; omega) HGL.out)
            clear o3 g3 b0 b1 HW0
            obtain ⟨s, hss⟩ : ∃ s, s = isum l := ⟨_, rfl⟩
            rw [← hss] at s0 s1 HQ HS
            clear hss
            have ht8 : s.tmod 8 = s % 8 := Int.tmod_eq_emod_of_nonneg s0
            go_wp2_with fail
            refine HS.out.mono ?_
            rintro e w4 ⟨rfl, g4⟩
            have G4 := Lib.hid (gb_trans G3.out g4)
            clear g4
            by_cases h8 : s % 8 = 0
            · have R := Lib.hid (HQ.out.trans (if_pos h8))
              have d1 : (s % 8 == 0) = true := by simp [h8]
              have d2 : (s % 8 != 0) = false := by simp [h8]
              clear h8
              go_wp2
              go_ret
              exact ⟨by rw [R.out] <;> rfl, gb_trans A0.out G4.out⟩
            · have R := Lib.hid (HQ.out.trans (if_neg h8))
              have d1 : (s % 8 == 0) = false := by simp [h8]
              have d2 : (s % 8 != 0) = true := by simp [h8]
              clear h8
              go_wp2
              go_ret
              exact ⟨by rw [R.out] <;> rfl, gb_trans A0.out G4.out⟩
end Go.Proofs.Ytjhknmklejkknaa
end
section
namespace Go.Proofs.Ytjhknmklejkknaa
open Go.RowKit
set_option linter.unusedVariables false

theorem fld_c {w0 w2 : World} {t : TypeId} {x y : Value} (h : (w0.alloc (.cells #[x, y] t)).grownBy w2 none) : w2.cell? ⟨w0.heap.size, 0, none⟩ = some x ∧ w2.cell? ⟨w0.heap.size, 1, none⟩ = some y := by
  have b := (IsB.new w0 t #[x, y]).keep0 h
  exact ⟨b.cell 0, b.cell 1⟩
set_option maxRecDepth 100000 in
set_option maxHeartbeats 8000000 in
theorem rcheck_any (w : World) (hs : ByteArray) (a : Option Addr) (n c : Nat) (L : List Fld) (h : SF w a n c L) (hn : n ≤ 1000) (hz : ∀ p ∈ L, p.1.size ≤ 9223372036854775807) (hz0 : hs.size ≤ 9223372036854775807) :
    Calls Try.prog 28 #[.agg #[.string hs, .slice a n c]] w (RetG (.int .i64 (chkH hs L)) w) := by
  have HE := Lib.hid (show chkH hs L = if isI hs = false then 6 else if L.length = 0 then 8 else if 12 < L.length then 12 else if errs L L.length = 0 then (if isum (wsL L) % 8 = 0 then 0 else 10) else errs L L.length from rfl)
  have hl := h.len
  rw [hl] at HE
  have HL := Lib.hid hl
  have HH := Lib.hid h
  have HZ := Lib.hid hz
  obtain ⟨r, hr⟩ : ∃ r, r = chkH hs L := ⟨_, rfl⟩
  rw [← hr] at HE ⊢
  have HI := Lib.hid (fun w => risI_any w hs hz0)
  have B0 := Lib.hid (fun (w' : World) (g : (w.alloc (.cells #[.string hs, .slice a n c] 66)).grownBy w' none) => (IsB.new w 66 #[.string hs, .slice a n c]).keep0 g)
  have A0 := Lib.hid (gb_alloc w (.cells #[.string hs, .slice a n c] 66) none)
  clear hl h hr hz hz0
  cases hv : isI hs
  · have HX := Lib.hid (show r = 6 by have := HE.out; rw [if_pos hv] at this; exact this)
    rw [hv] at HI
    clear hv HE
    go_enter Try.func28, Try.ntmps28
    go_wp2_with fail
    refine (HI.out _).mono ?_
    rintro e w2 ⟨rfl, g2⟩
    have G2 := Lib.hid (gb_trans A0.out g2)
    clear g2
    go_wp2
    go_ret
    exact ⟨by rw [HX.out] <;> rfl, G2.out⟩
  · rw [hv] at HI
    rw [if_neg (by rw [hv]; decide)] at HE
    clear hv
    go_enter Try.func28, Try.ntmps28
    go_wp2_with fail
    refine (HI.out _).mono ?_
    rintro e w2 ⟨rfl, g2⟩
    have b1 := (B0.out w2 g2).cell 1
    have b0 := (B0.out w2 g2).cell 0
    simp at b0 b1
    have G2 := Lib.hid g2
    clear g2
    by_cases h0 : n = 0
    · have HX := Lib.hid (show r = 8 by have := HE.out; rw [if_pos h0] at this; exact this)
      have i1 : ((n : Int) == 0) = true := by simp [h0]
      clear HE
      go_wp2
      go_ret
      exact ⟨by rw [HX.out] <;> rfl, gb_trans A0.out G2.out⟩
    · have i1 : ((n : Int) == 0) = false := by simp [h0]
      by_cases h12 : 12 < n
      · have HX := Lib.hid (show r = 12 by have := HE.out; rw [if_neg h0, if_pos h12] at this; exact this)
        have i2 : (12 : Int) < n := by omega
        clear HE
        go_wp2
        go_ret
        exact ⟨by rw [HX.out] <;> rfl, gb_trans A0.out G2.out⟩
      · have HX := Lib.hid (show r = if errs L n = 0 then (if isum (wsL L) % 8 = 0 then 0 else 10) else errs L n by have := HE.out; rw [if_neg h0, if_neg h12] at this; exact this)
        have i2 : ¬ (12 : Int) < n := by omega
        clear HE h0 h12
        go_wp2
        go_loopw [4, 3] (fun i s wr => ∃ j : Nat, j ≤ n ∧ i = .int .i64 j ∧ errs L j = 0 ∧ s = .int .i64 (isum ((wsL L).take j)) ∧ (0 ≤ isum ((wsL L).take j) ∧ isum ((wsL L).take j) ≤ 32 * j) ∧ (w.alloc (.cells #[.string hs, .slice a n c] 66)).grownBy wr none) (fun i _ _ => n - (intOf i).toNat)
        case atStart => exact ⟨0, Nat.zero_le _, rfl, rfl, rfl, by simp [isum], G2.out⟩
        case round =>
          obtain ⟨j, hj, rfl, ht, rfl, hsum, hg⟩ := hrel
          clear G2 b0 b1 i1 i2 w2
          have HT := Lib.hid ht
          have G2 := Lib.hid hg
          have b1 := (B0.out wr hg).cell 1
          have b0 := (B0.out wr hg).cell 0
          simp at b0 b1
          clear ht hg
          by_cases hlt : j < n
          · obtain ⟨ad, rfl⟩ := sf_some HH.out (by omega)
            have hjl : j < L.length := by rw [HL.out]; exact hlt
            obtain ⟨c0, c1⟩ := (HH.out.keep0 (gb_trans A0.out G2.out)).cells ad rfl j hlt
            have N1 := Lib.hid (errs_next L j HT.out)
            have N2 := Lib.hid (errs_first L j n hlt HT.out)
            have CE := Lib.hid (show chkF L j = if isI (L.getD j fz).1 = false then 6 else if ¬ (1 ≤ (L.getD j fz).2 ∧ (L.getD j fz).2 ≤ 32) then 10 else if hasNm (L.take j) (L.getD j fz).1 = true then 7 else 0 from rfl)
            have FD := Lib.hid (find_dup L j hjl)
            have ST := Lib.hid (isum_step (wsL L) j (by rw [wsL_len]; exact hjl))
            rw [wsL_get L j hjl] at ST
            have hzi := HZ.out (L.getD j fz) (by simp [hjl])
            obtain ⟨q, hq⟩ : ∃ q, q = chkF L j := ⟨_, rfl⟩
            rw [← hq] at CE N1 N2
            obtain ⟨p, hp⟩ : ∃ p, p = L.getD j fz := ⟨_, rfl⟩
            rw [← hp] at c0 c1 CE hzi FD ST
            obtain ⟨v, m⟩ := p
            have FR := Lib.hid (fun (w' : World) (g : wr.grownBy w' none) => rfind_any w' hs (some ad) n c L v (HH.out.keep0 (gb_trans A0.out (gb_trans G2.out g))) (by omega))
            have FR0 := Lib.hid (FR.out (wr.alloc (.cells #[.string v, .int .i64 m] 94)) (gb_alloc _ _ _))
            have HV := Lib.hid (fun w => risI_any w v hzi)
            obtain ⟨f, hf⟩ : ∃ f, f = fIdx L v := ⟨_, rfl⟩
            obtain ⟨fb, hfb⟩ : ∃ f, f = hasNm L v := ⟨_, rfl⟩
            rw [← hf, ← hfb] at FR0
            have FD2 := Lib.hid (show (hasNm (L.take j) v = true ↔ f < j) by rw [hf]; exact FD.out)
            obtain ⟨s, hss⟩ : ∃ s, s = isum ((wsL L).take j) := ⟨_, rfl⟩
            rw [← hss] at ST hsum ⊢
            have hsum1 : 0 ≤ s := hsum.1
            have hsum2 : s ≤ 32000 := by have := hsum.2; omega
            have i1 : (j : Int) < n := by omega
            have i0 : (0 : Int) ≤ (j : Int) := by omega
            have b2 := (gb_alloc wr (.cells #[.string v, .int .i64 m] 94) none).cell b0 (by simp)
            have b3 := (gb_alloc wr (.cells #[.string v, .int .i64 m] 94) none).cell b1 (by simp)
            have CE2 := Lib.hid (show q = if isI v = false then 6 else if ¬ (1 ≤ m ∧ m ≤ 32) then 10 else if hasNm (L.take j) v = true then 7 else 0 from CE.out)
            clear hp hq hf hfb hss FD FR CE hjl hzi
            have ST2 := Lib.hid (show isum ((wsL L).take (j + 1)) = s + m from ST.out)
            clear ST
            go_wp2_with fail
            refine FR0.out.mono ?_
            rintro e w3 ⟨rfl, g3⟩
            obtain ⟨d0, d1⟩ := fld_c g3
            have G3 := Lib.hid g3
            clear g3 FR0 b0 b1 c0 c1
            cases hv : isI v
            · have Q := Lib.hid (show q = 6 by have := CE2.out; rw [if_pos hv] at this; exact this)
              have R := Lib.hid (show r = 6 by have := HX.out; rw [N2.out (by rw [Q.out]; decide), if_neg (by rw [Q.out]; decide), Q.out] at this; exact this)
              rw [hv] at HV
              clear hv
              go_wp2_with fail
              refine (HV.out _).mono ?_
              rintro e w4 ⟨rfl, g4⟩
              have G4 := Lib.hid (gb_trans (gb_trans G2.out (gb_trans (gb_alloc _ _ _) G3.out)) g4)
              clear g4 b2 b3 d0 d1
              go_wp2
              go_ret
              exact ⟨by rw [R.out] <;> rfl, gb_trans A0.out G4.out⟩
            · rw [if_neg (by rw [hv]; decide)] at CE2
              rw [hv] at HV
              clear hv
              by_cases hm : 1 ≤ m ∧ m ≤ 32
              · rw [if_neg (by omega)] at CE2
                obtain ⟨m1, m2⟩ := hm
                by_cases hfj : f < j
                · have Q := Lib.hid (show q = 7 by have := CE2.out; rw [if_pos (FD2.out.2 hfj)] at this; exact this)
                  have R := Lib.hid (show r = 7 by have := HX.out; rw [N2.out (by rw [Q.out]; decide), if_neg (by rw [Q.out]; decide), Q.out] at this; exact this)
                  have i3 : (f : Int) < j := by omega
                  go_wp2_with fail
                  refine (HV.out _).mono ?_
                  rintro e w4 ⟨rfl, g4⟩
                  obtain ⟨d2, d3⟩ := fld_c (gb_trans G3.out g4)
                  have G4 := Lib.hid (gb_trans (gb_trans G2.out (gb_trans (gb_alloc _ _ _) G3.out)) g4)
                  clear g4 b2 b3 d0 d1
                  go_wp2
                  go_ret
                  exact ⟨by rw [R.out] <;> rfl, gb_trans A0.out G4.out⟩
                · have Q := Lib.hid (show q = 0 by have := CE2.out; rw [if_neg (fun k => hfj (FD2.out.1 k))] at this; exact this)
                  have R := Lib.hid (N1.out Q.out)
                  have i3 : ¬ (f : Int) < j := by omega
                  have i4 : 0 ≤ s + m := by omega
                  have i5 : s + m ≤ 33000 := by omega
                  have i6 : s + m ≤ 32 * (j + 1 : Nat) := by have := hsum.2; omega
                  have I6 := Lib.hid i6
                  clear i6 hsum
                  go_wp2_with fail
                  refine (HV.out _).mono ?_
                  rintro e w4 ⟨rfl, g4⟩
                  obtain ⟨d2, d3⟩ := fld_c (gb_trans G3.out g4)
                  have G4 := Lib.hid (gb_trans (gb_trans G2.out (gb_trans (gb_alloc _ _ _) G3.out)) g4)
                  clear g4 b2 b3 d0 d1
                  go_wp2
                  go_roundw
                  case rel => exact ⟨j + 1, by omega, by go_num, R.out, by rw [ST2.out], by rw [ST2.out]; exact ⟨i4, I6.out⟩, G4.out⟩
                  case measure => simp [intOf]; omega
              · have Q := Lib.hid (show q = 10 by have := CE2.out; rw [if_pos hm] at this; exact this)
                have R := Lib.hid (show r = 10 by have := HX.out; rw [N2.out (by rw [Q.out]; decide), if_neg (by rw [Q.out]; decide), Q.out] at this; exact this)
                rcases (show m < 1 ∨ (1 ≤ m ∧ 32 < m) by omega) with k | ⟨k1, k2⟩
                all_goals
                  clear hm
                  go_wp2_with fail
                  refine (HV.out _).mono ?_
                  rintro e w4 ⟨rfl, g4⟩
                  obtain ⟨d2, d3⟩ := fld_c (gb_trans G3.out g4)
                  have G4 := Lib.hid (gb_trans (gb_trans G2.out (gb_trans (gb_alloc _ _ _) G3.out)) g4)
                  clear g4 b2 b3 d0 d1
                  go_wp2
                  go_ret
                  exact ⟨by rw [R.out] <;> rfl, gb_trans A0.out G4.out⟩
          · have hje : j = n := by omega
            have HQ := Lib.hid (show r = if isum ((wsL L).take j) % 8 = 0 then 0 else 10 by
              have := HX.out
              rw [← hje, if_pos HT.out] at this
              rw [List.take_of_length_le (by rw [wsL_len, HL.out]; omega)]; exact this)
            obtain ⟨s, hss⟩ : ∃ s, s = isum ((wsL L).take j) := ⟨_, rfl⟩
            rw [← hss] at HQ hsum ⊢
            have ht8 : s.tmod 8 = s % 8 := Int.tmod_eq_emod_of_nonneg hsum.1
            clear HX hss hsum
            subst hje
            by_cases h8 : s % 8 = 0
            · have R := Lib.hid (HQ.out.trans (if_pos h8))
              have d1 : (s % 8 == 0) = true := by simp [h8]
              have d2 : (s % 8 != 0) = false := by simp [h8]
              clear h8
              go_wp2
              go_ret
              exact ⟨by rw [R.out] <;> rfl, gb_trans A0.out G2.out⟩
            · have R := Lib.hid (HQ.out.trans (if_neg h8))
              have d1 : (s % 8 == 0) = false := by simp [h8]
              have d2 : (s % 8 != 0) = true := by simp [h8]
              clear h8
              go_wp2
              go_ret
              exact ⟨by rw [R.out] <;> rfl, gb_trans A0.out G2.out⟩
end Go.Proofs.Ytjhknmklejkknaa
end
section
namespace Go.Proofs.Ytjhknmklejkknaa
open Go.RowKit
set_option linter.unusedVariables false

/-- A header whose name and names are short enough to be asked. -/
structure HdOk (w : World) (hs : ByteArray) (a : Option Addr) (n c : Nat) (L : List Fld) : Prop where
  sf : SF w a n c L
  few : n ≤ 1000
  nm : ∀ p ∈ L, p.1.size ≤ 9223372036854775807
  hn : hs.size ≤ 9223372036854775807
theorem HdOk.keep0 {w w2 : World} {hs : ByteArray} {a : Option Addr} {n c : Nat} {L : List Fld} (h : HdOk w hs a n c L) (k : w.grownBy w2 none) : HdOk w2 hs a n c L := ⟨h.sf.keep0 k, h.few, h.nm, h.hn⟩
theorem bits_ok {hs : ByteArray} {L : List Fld} (h : chkH hs L = 0) : bitsH hs L = isum (wsL L) ∧ 0 ≤ isum (wsL L) ∧ isum (wsL L) ≤ 384 ∧ (sumL (wsL L) : Int) = isum (wsL L) := by
  obtain ⟨a, b, c, d, e⟩ := chk_ok hs L h
  obtain ⟨f1, f2, f3⟩ := isum_good _ e
  rw [wsL_len] at f3
  exact ⟨by unfold bitsH; rw [if_pos h], f2, by omega, f1.symm⟩
theorem bits_no {hs : ByteArray} {L : List Fld} (h : ¬ chkH hs L = 0) : bitsH hs L = 0 := by unfold bitsH; rw [if_neg h]
set_option maxRecDepth 100000 in
set_option maxHeartbeats 4000000 in
theorem bits_any (w : World) (hs : ByteArray) (a : Option Addr) (n c : Nat) (L : List Fld) (h : HdOk w hs a n c L) :
    Calls Try.prog 67 #[.agg #[.string hs, .slice a n c]] w (RetG (.int .i64 (bitsH hs L)) w) := by
  have HH := Lib.hid h
  have B0 := Lib.hid (fun (w' : World) (g : (w.alloc (.cells #[.string hs, .slice a n c] 66)).grownBy w' none) => fld_c g)
  have A0 := Lib.hid (gb_alloc w (.cells #[.string hs, .slice a n c] 66) none)
  have HC := Lib.hid (check_any (w.alloc (.cells #[.string hs, .slice a n c] 66)) hs a n c L (h.sf.keep0 A0.out) h.few h.nm h.hn)
  have HN := Lib.hid (bits_no (hs := hs) (L := L))
  have HY := Lib.hid (bits_ok (hs := hs) (L := L))
  have GL := Lib.hid (chk_ok hs L)
  have HL := Lib.hid (show (wsL L).length = n by rw [wsL_len, h.sf.len])
  obtain ⟨q, hq⟩ : ∃ q, q = chkH hs L := ⟨_, rfl⟩
  rw [← hq] at HC HN HY GL
  obtain ⟨r, hr⟩ : ∃ q, q = bitsH hs L := ⟨_, rfl⟩
  rw [← hr] at HN HY ⊢
  clear h hq hr
  by_cases q0 : q = 0
  · have Y := Lib.hid (HY.out q0)
    have G := Lib.hid (GL.out q0).2.2.2.2
    subst q0
    clear HN HY GL
    go_enter Try.func67, Try.ntmps67
    go_wp2_with fail
    refine HC.out.mono ?_
    rintro e w2 ⟨rfl, g2⟩
    obtain ⟨b0, b1⟩ := B0.out w2 g2
    have G2 := Lib.hid (gb_trans A0.out g2)
    have HW := Lib.hid (widths_any w2 hs a n c L (HH.out.sf.keep0 G2.out) HH.out.few)
    clear g2 HC
    go_wp2_with fail
    refine HW.out.mono ?_
    rintro e w3 ⟨V, rfl, o3, g3⟩
    obtain ⟨a3, c3, rfl⟩ := o3.shape
    have hfew := HH.out.few
    have HS := Lib.hid (sum_any w3 a3 _ c3 (wsL L) (o3.slr rfl) (by rw [HL.out]; omega) G.out)
    rw [← Y.out.1] at HS
    have G3 := Lib.hid (gb_trans G2.out g3)
    clear g3 o3 b0 b1 HW
    go_wp2_with fail
    refine HS.out.mono ?_
    rintro e w4 ⟨rfl, g4⟩
    have G4 := Lib.hid (gb_trans G3.out g4)
    clear g4
    go_wp2
    go_ret
    exact ⟨rfl, G4.out⟩
  · have N := Lib.hid (HN.out q0)
    have d1 : (q == 0) = false := by simp [q0]
    have d2 : (q != 0) = true := by simp [q0]
    clear q0 HN HY GL
    go_enter Try.func67, Try.ntmps67
    go_wp2_with fail
    refine HC.out.mono ?_
    rintro e w2 ⟨rfl, g2⟩
    have G2 := Lib.hid (gb_trans A0.out g2)
    clear g2 HC
    go_wp2
    go_ret
    exact ⟨by rw [N.out] <;> rfl, G2.out⟩
/-- Small's answer. -/
def smallH (hs : ByteArray) (L : List Fld) : Bool := decide (hs.size ≤ 30 ∧ L.length ≤ 20 ∧ ∀ p ∈ L, p.1.size ≤ 30)
theorem smallH_ok {hs : ByteArray} {L : List Fld} (h : smallH hs L = true) : hs.size ≤ 30 ∧ L.length ≤ 20 ∧ ∀ p ∈ L, p.1.size ≤ 30 := of_decide_eq_true h
set_option maxRecDepth 100000 in
set_option maxHeartbeats 4000000 in
theorem small_any (w : World) (hs : ByteArray) (a : Option Addr) (n c : Nat) (L : List Fld) (h : SF w a n c L) :
    Calls Try.prog 43 #[.agg #[.string hs, .slice a n c]] w (RetG (.bool (smallH hs L)) w) := by
  have HH := Lib.hid h
  have HE := Lib.hid (show smallH hs L = decide (hs.size ≤ 30 ∧ L.length ≤ 20 ∧ ∀ p ∈ L, p.1.size ≤ 30) from rfl)
  rw [h.len] at HE
  have B0 := Lib.hid (fun (w' : World) (g : (w.alloc (.cells #[.string hs, .slice a n c] 66)).grownBy w' none) => fld_c g)
  have A0 := Lib.hid (gb_alloc w (.cells #[.string hs, .slice a n c] 66) none)
  obtain ⟨r, hr⟩ : ∃ q, q = smallH hs L := ⟨_, rfl⟩
  rw [← hr] at HE ⊢
  clear h hr
  by_cases h1 : hs.size ≤ 30
  · have i1 : ¬ (30 : Int) < hs.size := by omega
    by_cases h2 : n ≤ 20
    · have i2 : ¬ (20 : Int) < n := by omega
      go_enter Try.func43, Try.ntmps43
      go_wp2
      go_loopw [3] (fun i wr => ∃ j : Nat, j ≤ n ∧ i = .int .i64 j ∧ (∀ k, k < j → (L.getD k fz).1.size ≤ 30) ∧ (w.alloc (.cells #[.string hs, .slice a n c] 66)).grownBy wr none) (fun i _ => n - (intOf i).toNat)
      case atStart => exact ⟨0, Nat.zero_le _, rfl, (fun k hk => absurd hk (Nat.not_lt_zero _)), gb_refl _ _⟩
      case round =>
        obtain ⟨j, hj, rfl, ha, hg⟩ := hrel
        have HA := Lib.hid ha
        have G2 := Lib.hid hg
        obtain ⟨b0, b1⟩ := B0.out wr hg
        clear hg ha i1 i2
        by_cases hlt : j < n
        · obtain ⟨ad, rfl⟩ := sf_some HH.out (by omega)
          have hjl : j < L.length := by rw [HH.out.len]; exact hlt
          obtain ⟨c0, c1⟩ := (HH.out.keep0 (gb_trans A0.out G2.out)).cells ad rfl j hlt
          have HM := Lib.hid (show L.getD j fz ∈ L by simp [hjl])
          obtain ⟨p, hp⟩ : ∃ p, p = L.getD j fz := ⟨_, rfl⟩
          have HP := Lib.hid hp
          rw [← hp] at c0 c1 HM
          obtain ⟨v, m⟩ := p
          have i1 : (j : Int) < n := by omega
          have i0 : (0 : Int) ≤ (j : Int) := by omega
          clear hp hjl
          by_cases hv : v.size ≤ 30
          · have i2 : ¬ (30 : Int) < v.size := by omega
            have HA2 := Lib.hid (show ∀ k, k < j + 1 → (L.getD k fz).1.size ≤ 30 from fun k hk => by
              rcases (show k < j ∨ k = j by omega) with q | rfl
              · exact HA.out k q
              · rw [← HP.out]; exact hv)
            clear hv HA
            go_wp2
            go_roundw
            case rel => exact ⟨j + 1, by omega, by go_num, HA2.out, G2.out⟩
            case measure => simp [intOf]; omega
          · have i2 : (30 : Int) < v.size := by omega
            have R := Lib.hid (show r = false by rw [HE.out]; exact decide_eq_false (fun k => hv (k.2.2 _ HM.out)))
            clear hv HA
            go_wp2
            go_ret
            exact ⟨by rw [R.out] <;> rfl, gb_trans A0.out G2.out⟩
        · have hje : j = n := by omega
          have R := Lib.hid (show r = true by
            rw [HE.out]
            refine decide_eq_true ⟨h1, h2, fun p hp => ?_⟩
            obtain ⟨k, hk, rfl⟩ := List.mem_iff_getElem.1 hp
            have := HA.out k (by rw [hje, ← HH.out.len]; exact hk)
            simpa [hk] using this)
          clear HA
          subst hje
          go_wp2
          go_ret
          exact ⟨by rw [R.out] <;> rfl, gb_trans A0.out G2.out⟩
    · have i2 : (20 : Int) < n := by omega
      have R := Lib.hid (show r = false by rw [HE.out]; exact decide_eq_false (fun k => h2 k.2.1))
      go_enter Try.func43, Try.ntmps43
      go_wp2
      go_ret
      exact ⟨by rw [R.out] <;> rfl, A0.out⟩
  · have i1 : (30 : Int) < hs.size := by omega
    have R := Lib.hid (show r = false by rw [HE.out]; exact decide_eq_false (fun k => h1 k.1))
    go_enter Try.func43, Try.ntmps43
    go_wp2
    go_ret
    exact ⟨by rw [R.out] <;> rfl, A0.out⟩
end Go.Proofs.Ytjhknmklejkknaa
end
