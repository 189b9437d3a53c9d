/- Parser: a map of names; the program: isIndex, hasHeaders, isNext, fits; no condition. -/
import Derived.Test.YtjhknmklejkknaaPsA
import Derived.BigQuiet
import Derived.Maps.OwnSet
import Derived.DeepKeys4
import Derived.ChangeMaps5
namespace Go.Proofs.Ytjhknmklejkknaa
open Go.RowKit
set_option linter.unusedVariables false
theorem strLaw : Maps.Keyed Try.prog 9 := Maps.string_keyed Try.underlying9
set_option maxRecDepth 100000 in
theorem str_key (s : ByteArray) (h : s.size ≤ maxLen) : keyOf Try.prog 9 (.string s) = some (.string s.data.toList) := WideMaps.keyOf_string_mk Try.underlying9 h
theorem eqS_iff (s t : ByteArray) : eqS s t = true ↔ s = t := by
  unfold eqS
  rw [beq_iff_eq, ByteArray.toList_eq, ByteArray.toList_eq]
  constructor
  · intro h; exact ByteArray.ext (Array.toList_inj.1 h)
  · intro h; rw [h]
/-- Block b is a map that holds the names S, each with true. -/
def MS (w : World) (b : Nat) (S : List ByteArray) : Prop := ∃ (D : DataW Unit) (n : Nat), w.ownsMap Try.prog 9 (plainElem Try.prog 4) b n D ∧ n ≤ S.length ∧
  ∀ p : ByteArray, p.size ≤ maxLen → D.atKey (.string p.data.toList) (.lit (.bool false)) = .lit (.bool (S.any fun x => eqS x p))
theorem MS.keep {w w2 : World} {row : Option Nat} {b : Nat} {S : List ByteArray} (h : MS w b S) (k : w.grownBy w2 row) (hn : some b ≠ row) : MS w2 b S := by
  obtain ⟨D, n, h1, h2⟩ := h
  exact ⟨D, n, h1.kept k hn, h2⟩
theorem MS.keep0 {w w2 : World} {b : Nat} {S : List ByteArray} (h : MS w b S) (k : w.grownBy w2 none) : MS w2 b S := h.keep k (by simp)
theorem MS.new (w : World) : MS (w.alloc (.map #[] 0)) w.heap.size [] :=
  ⟨.map [], 0, World.ownsMap_made w _ _ _, Nat.le_refl _, fun p _ => by simp [DataW.atKey]⟩
theorem MS.look {w : World} {b : Nat} {S : List ByteArray} (h : MS w b S) (x : ByteArray) (hx : x.size ≤ maxLen) : (Instr.lookup 85 (.map (some b)) (.string x) false).run Try.prog w = .ok (.bool (S.any fun y => eqS y x)) w := by
  obtain ⟨D, n, o, _, hD⟩ := h
  have hk := str_key x hx
  obtain ⟨y, ps, hr, hy⟩ := o.lookup strLaw Try.underlying85 (z := .bool false) (by kernel_rfl) (plainElem_bool Try.underlying4 false) hk
  rw [hD x hx] at hy
  have : y = .bool (S.any fun y => eqS y x) := by
    unfold plainElem at hy
    cases y <;> simp [Try.underlying4] at hy
    rw [hy.1]
  subst this
  exact hr
theorem MS.put {w : World} {b : Nat} {S : List ByteArray} (h : MS w b S) (x : ByteArray) (hx : x.size ≤ maxLen) (hn : S.length < 100000) : ∃ w', (Instr.mapUpdate 85 (.map (some b)) (.string x) (.bool true)).run Try.prog w = .ok () w' ∧ MS w' b (S ++ [x]) ∧ w.grownBy w' (some b) := by
  obtain ⟨D, n, o, ho, hD⟩ := h
  have hk := str_key x hx
  obtain ⟨w', hr, o', g⟩ := o.update strLaw Try.underlying85 (by unfold maxLen; omega) hk (plainElem_bool Try.underlying4 true)
  refine ⟨w', hr, ⟨_, n + 1, o', by rw [List.length_append]; simp; omega, fun p hp => ?_⟩, g⟩
  by_cases e : p = x
  · subst e
    rw [Maps.atKey_put_same o.isMap (strLaw.key hk)]
    have : eqS p p = true := (eqS_iff p p).2 rfl
    simp [this]
  · have ne : p.data.toList ≠ x.data.toList := fun q => e (ByteArray.ext (Array.toList_inj.1 q))
    have ne2 : (Lit.string p.data.toList) ≠ Lit.string x.data.toList := fun q => ne (Lit.string.inj q)
    rw [Maps.atKey_put_other ne2, hD p hp]
    have : eqS x p = false := by
      cases h : eqS x p
      · rfl
      · exact absurd ((eqS_iff x p).1 h).symm e
    simp [this]
theorem isI_size {s : ByteArray} (h : isI s = true) : s.size ≤ 16 := by
  unfold isI Lx.isId at h
  have q := (of_decide_eq_true h).2.1
  have e : (Lx.bytesI s).length = s.size := by unfold Lx.bytesI; rw [List.length_map]; rfl
  omega
theorem pisx_any (w : World) (i : Int) (n : Nat) : Calls Try.prog 103 #[.int .i64 i, .int .i64 (n : Int)] w (RetS (.bool (isX i n)) w) := by
  by_cases h0 : 0 ≤ i
  · by_cases h1 : i < (n : Int)
    · have HX := Lib.hid ((isX_iff i n).2 ⟨h0, h1⟩)
      go_enter Try.func103, Try.ntmps103
      go_wp2
      go_ret
      exact ⟨by rw [HX.out] <;> rfl, rfl⟩
    · have HX := Lib.hid ((isX_not i n).2 (fun h => h1 h.2))
      go_enter Try.func103, Try.ntmps103
      go_wp2
      go_ret
      exact ⟨by rw [HX.out] <;> rfl, rfl⟩
  · have HX := Lib.hid ((isX_not i n).2 (fun h => h0 h.1))
    go_enter Try.func103, Try.ntmps103
    go_wp2
    go_ret
    exact ⟨by rw [HX.out] <;> rfl, rfl⟩
theorem ex_take (n : Nat) (L : List Int) (j : Nat) (h : j < L.length) : exOk n (L.take (j + 1)) = (exOk n (L.take j) && isX (L.getD j 0) n) := by
  unfold exOk
  rw [take_one L 0 j h, List.all_append]; simp
theorem ex_bad {n : Nat} {L : List Int} {j : Nat} (h : j < L.length) (x : isX (L.getD j 0) n = false) : exOk n L = false := by
  cases q : exOk n L
  · rfl
  · exfalso
    unfold exOk at q
    have := List.all_eq_true.1 q (L.getD j 0) (by rw [List.getD_eq_getElem?_getD, List.getElem?_eq_getElem h]; exact List.getElem_mem _)
    rw [x] at this; cases this
set_option maxRecDepth 100000 in
set_option maxHeartbeats 8000000 in
theorem phas_any (w : World) (nm v3 v4 v5 v7 v8 : Value) (ha ma sa : Option Addr) (hn hc mn mc sn sc : Nat) (a : Option Addr) (n c : Nat) (L : List Int) (h : SI w a n c L) (hn2 : n ≤ 100000) : Calls Try.prog 70 #[.agg #[nm, .slice ha hn hc, .slice ma mn mc, v3, v4, v5, .slice sa sn sc, v7, v8], .slice a n c] w (RetV (.bool (exOk hn L)) w) := by
  have HH := Lib.hid h
  have HL := Lib.hid h.len
  have G1 := Lib.hid (gb_alloc w (.cells #[nm, .slice ha hn hc, .slice ma mn mc, v3, v4, v5, .slice sa sn sc, v7, v8] 31) none)
  have B1 := IsB.new w 31 #[nm, .slice ha hn hc, .slice ma mn mc, v3, v4, v5, .slice sa sn sc, v7, v8]
  replace B1 := Lib.hid B1
  clear h
  go_enter Try.func70, Try.ntmps70
  go_upto_region 1 with fail
  generalize w.alloc (.cells #[nm, .slice ha hn hc, .slice ma mn mc, v3, v4, v5, .slice sa sn sc, v7, v8] 31) = w1 at *
  obtain ⟨bx, hbx⟩ : ∃ b, b = w.heap.size := ⟨_, rfl⟩
  have Lbx := Lib.hid (show w.heap.size ≤ bx by rw [hbx]; exact Nat.le_refl _)
  rw [← hbx] at B1 ⊢
  clear hbx
  go_wp2
  go_loopw [9] (fun i wr => ∃ j : Nat, j ≤ n ∧ i = .int .i64 j ∧ exOk hn (L.take j) = true ∧ w1.grownBy wr none) (fun i _ => n - (intOf i).toNat)
  case atStart => exact ⟨0, Nat.zero_le _, rfl, rfl, gb_refl _ _⟩
  case round =>
    obtain ⟨j, hj, rfl, ht, hg⟩ := hrel
    have HT := Lib.hid ht
    have HG := Lib.hid hg
    clear ht hg
    have c0 := (B1.out.keep0 HG.out).cell 0
    have c1 := (B1.out.keep0 HG.out).cell 1
    have c2 := (B1.out.keep0 HG.out).cell 2
    have c3 := (B1.out.keep0 HG.out).cell 3
    have c4 := (B1.out.keep0 HG.out).cell 4
    have c5 := (B1.out.keep0 HG.out).cell 5
    have c6 := (B1.out.keep0 HG.out).cell 6
    have c7 := (B1.out.keep0 HG.out).cell 7
    have c8 := (B1.out.keep0 HG.out).cell 8
    dsimp at c0 c1 c2 c3 c4 c5 c6 c7 c8
    by_cases hlt : j < n
    · have hl : j < L.length := by rw [HL.out]; exact hlt
      obtain ⟨ad, rfl⟩ := HH.out.some (by omega)
      have i1 : (j : Int) < n := by omega
      have i0 : (0 : Int) ≤ (j : Int) := by omega
      have hw : IntKind.i64.wrap ((j : Int) + 1) = ((j + 1 : Nat) : Int) := by rw [IntKind.wrap_i64]; omega
      have d0 := (HH.out.keep0 (gb_trans G1.out HG.out)).cells ad rfl j hlt
      have ST := Lib.hid (ex_take hn L j hl)
      have BAD := Lib.hid (ex_bad (n := hn) hl)
      generalize L.getD j 0 = y at *
      clear hl
      have KX := Lib.hid (fun W => pisx_any W y hn)
      generalize isX y hn = b1 at *
      cases b1
      · have Z := Lib.hid (BAD.out rfl)
        go_wp2_with fail
        refine (KX.out _).mono ?_
        rintro e9 w2 ⟨rfl, hw2⟩
        obtain rfl := hw2.symm
        go_wp2
        go_ret
        exact ⟨by rw [Z.out] <;> rfl, gb_trans G1.out HG.out⟩
      · have Z := Lib.hid (show exOk hn (L.take (j + 1)) = true by rw [ST.out, HT.out]; rfl)
        go_wp2_with fail
        refine (KX.out _).mono ?_
        rintro e9 w2 ⟨rfl, hw2⟩
        obtain rfl := hw2.symm
        go_wp2
        go_roundw
        case rel => exact ⟨j + 1, by omega, by go_num, Z.out, HG.out⟩
        case measure => simp [intOf]; omega
    · have hje : j = n := by omega
      have Z := Lib.hid (show exOk hn L = true by have := HT.out; rwa [List.take_of_length_le (by rw [HL.out]; omega)] at this)
      subst hje
      go_wp2
      go_ret
      exact ⟨by rw [Z.out] <;> rfl, gb_trans G1.out HG.out⟩
set_option maxRecDepth 100000 in
set_option maxHeartbeats 8000000 in
theorem pnext_any (w : World) (nm v3 v4 v5 v7 v8 : Value) (ha ma sa : Option Addr) (hn hc mn mc sn sc : Nat) (i : Nat) (x : Int) : Calls Try.prog 73 #[.agg #[nm, .slice ha hn hc, .slice ma mn mc, v3, v4, v5, .slice sa sn sc, v7, v8], .int .i64 (i : Int), .int .i64 x] w (RetV (.bool (nxB sn i x)) w) := by
  obtain ⟨b, hb⟩ : ∃ b, b = nxB sn i x := ⟨_, rfl⟩
  rw [← hb]
  unfold nxB at hb
  have G1 := Lib.hid (gb_alloc w (.cells #[nm, .slice ha hn hc, .slice ma mn mc, v3, v4, v5, .slice sa sn sc, v7, v8] 31) none)
  have B1 := IsB.new w 31 #[nm, .slice ha hn hc, .slice ma mn mc, v3, v4, v5, .slice sa sn sc, v7, v8]
  replace B1 := Lib.hid B1
  go_enter Try.func73, Try.ntmps73
  go_upto_region 1 with fail
  generalize w.alloc (.cells #[nm, .slice ha hn hc, .slice ma mn mc, v3, v4, v5, .slice sa sn sc, v7, v8] 31) = w1 at *
  obtain ⟨bx, hbx⟩ : ∃ b, b = w.heap.size := ⟨_, rfl⟩
  have Lbx := Lib.hid (show w.heap.size ≤ bx by rw [hbx]; exact Nat.le_refl _)
  rw [← hbx] at B1 ⊢
  clear hbx
  have c0 := (B1.out.keep0 (gb_refl _ _)).cell 0
  have c1 := (B1.out.keep0 (gb_refl _ _)).cell 1
  have c2 := (B1.out.keep0 (gb_refl _ _)).cell 2
  have c3 := (B1.out.keep0 (gb_refl _ _)).cell 3
  have c4 := (B1.out.keep0 (gb_refl _ _)).cell 4
  have c5 := (B1.out.keep0 (gb_refl _ _)).cell 5
  have c6 := (B1.out.keep0 (gb_refl _ _)).cell 6
  have c7 := (B1.out.keep0 (gb_refl _ _)).cell 7
  have c8 := (B1.out.keep0 (gb_refl _ _)).cell 8
  dsimp at c0 c1 c2 c3 c4 c5 c6 c7 c8
  by_cases h1 : x = -1
  · obtain rfl : b = true := by rw [hb]; exact decide_eq_true (.inl h1)
    clear hb
    subst h1
    go_wp2
    go_ret
    exact ⟨rfl, G1.out⟩
  have e1 : (x == -1) = false := by rw [beq_eq_false_iff_ne]; exact h1
  by_cases h2 : x = -2
  · obtain rfl : b = true := by rw [hb]; exact decide_eq_true (.inr (.inl h2))
    clear hb
    subst h2
    go_wp2
    go_ret
    exact ⟨rfl, G1.out⟩
  have e2 : (x == -2) = false := by rw [beq_eq_false_iff_ne]; exact h2
  by_cases h3 : (i : Int) < x
  case neg =>
    have e3 : decide ((i : Int) < x) = false := decide_eq_false h3
    obtain rfl : b = false := by rw [hb]; exact decide_eq_false (by omega)
    clear hb
    go_wp2
    go_ret
    exact ⟨rfl, G1.out⟩
  have e3 : decide ((i : Int) < x) = true := decide_eq_true h3
  by_cases h4 : x < (sn : Int)
  · have e4 : decide (x < (sn : Int)) = true := decide_eq_true h4
    obtain rfl : b = true := by rw [hb]; exact decide_eq_true (.inr (.inr ⟨h3, h4⟩))
    clear hb
    go_wp2
    go_ret
    exact ⟨rfl, G1.out⟩
  · have e4 : decide (x < (sn : Int)) = false := decide_eq_false h4
    obtain rfl : b = false := by rw [hb]; exact decide_eq_false (by omega)
    clear hb
    go_wp2
    go_ret
    exact ⟨rfl, G1.out⟩
theorem shr_zero (v : Int) (k : Nat) (h0 : 0 ≤ v) : (v / 2 ^ k == 0) = decide (v < 2 ^ k) := by
  have hp : (0 : Int) < 2 ^ k := Int.pow_pos (by decide)
  rw [Bool.eq_iff_iff, beq_iff_eq, decide_eq_true_iff]
  constructor
  · intro h
    have := Int.lt_ediv_add_one_mul_self v hp
    rw [h] at this; omega
  · intro h; exact Int.ediv_eq_zero_of_lt h0 h
theorem pfits_any (w : World) (v : Int) (k : Nat) (h0 : 0 ≤ v) (hk : k ≤ 32) (b : Bool) (hb : decide (v < 2 ^ k) = b) : Calls Try.prog 107 #[.int .u32 v, .int .i64 (k : Int)] w (RetS (.bool b) w) := by
  have hm : min k 32 = k := by omega
  have hz0 := shr_zero v k h0
  rw [hb] at hz0
  clear hb
  go_enter Try.func107, Try.ntmps107
  go_wp2
  go_ret
  exact ⟨rfl, rfl⟩
end Go.Proofs.Ytjhknmklejkknaa
