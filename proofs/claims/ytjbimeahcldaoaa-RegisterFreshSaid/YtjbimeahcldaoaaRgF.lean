/- Register: duplicate; no condition but sizes. -/
import Derived.Test.YtjbimeahcldaoaaRgE
namespace Go.Proofs.Ytjbimeahcldaoaa
open Go.RowKit
set_option linter.unusedVariables false
/-- The first k of n rows are those of the list, the others are empty. -/
def up (n k : Nat) (L : List (List Int)) : List (List Int) := (List.range n).map fun j => if j < k then L.getD j [] else []
theorem up_len (n k : Nat) (L : List (List Int)) : (up n k L).length = n := by simp [up]
theorem up_zero (n : Nat) (L : List (List Int)) : up n 0 L = List.replicate n [] := by
  apply List.ext_getElem (by simp [up])
  intro i h1 h2
  simp [up]
theorem up_all (L : List (List Int)) (n : Nat) (h : L.length = n) : up n n L = L := by
  subst h
  apply List.ext_getElem (by simp [up])
  intro i h1 h2
  simp [up, h2]
theorem up_set (n k : Nat) (L : List (List Int)) (h : k < n) : (up n k L).set k (L.getD k []) = up n (k + 1) L := by
  apply List.ext_getElem (by simp [up])
  intro i h1 h2
  rw [List.getElem_set]
  by_cases e : k = i
  · subst e
    simp [up]
  · rw [if_neg e]
    simp [up]
    by_cases q : i < k
    · rw [if_pos q, if_pos (by omega)]
    · rw [if_neg q, if_neg (by omega)]
theorem up_same (n k : Nat) (L : List (List Int)) (h : k < n) (he : L.getD k [] = []) : up n k L = up n (k + 1) L := by
  rw [← up_set n k L h, he]
  apply List.ext_getElem (by simp [up])
  intro i h1 h2
  rw [List.getElem_set]
  by_cases e : k = i
  · subst e
    simp [up]
  · rw [if_neg e]
theorem sz32 : (Try.prog.info? 44).map (·.size) = some 1 := by kernel_rfl
theorem splice_all {α : Type} (Z X : List α) (h : X.length = Z.length) : splice Z 0 X = X := by
  unfold splice
  simp [h]
theorem nu_of {w : World} {base g n c : Nat} {l : List Int} (hb : IsB w g 44 (l.map (Value.int .u32)).toArray) (hn : l.length = n) (hg : base ≤ g) (hm : n ≤ maxLen) : NU w base (.slice (some ⟨g, 0, none⟩) n n) l := by
  subst hn
  exact ⟨by simp, .inr ⟨g, l.length, _, rfl, hg, hb, Nat.le_refl _, hm, by simp, by rw [Nat.mul_one]; exact List.take_of_length_le (by simp)⟩⟩
theorem gb_below_one {a b : World} {g : Nat} (h : Below g a b) (hs : a.heap.size = g + 1) : a.grownBy b (some g) :=
  ⟨h.os, h.tape, h.output, h.size, fun k hk hn => h.block k (by
    have : k ≠ g := fun e => hn (by rw [e])
    omega)⟩
theorem or_own {w : World} {base n : Nat} {V : Value} (h : w.ownsRow base 53 1 V n (List.replicate n (.slice none 0 0))) : OR w base V (List.replicate n []) (List.replicate n nilV) := by
  refine ⟨by simpa [nilV] using h, ?_, ?_, ?_⟩
  · intro x hx
    simp at hx
    have e1 : (List.replicate n nilV).getD x nilV = nilV := by simp [hx]
    have e2 : (List.replicate n ([] : List Int)).getD x [] = [] := by simp [hx]
    rw [e1, e2]
    exact World.ownsRow_nil _ _ _ _
  · intro x y hx hy _ q hq
    simp at hx
    have e1 : (List.replicate n nilV).getD x nilV = nilV := by simp [hx]
    rw [e1] at hq
    simp [nilV, Value.ownBlock] at hq
  · intro l hl
    have := List.eq_of_mem_replicate hl
    subst this
    intro x hx; cases hx
theorem ucopy_any {w : World} {ops : Array Oper} {rest : List Oper} {o : Oper} {a : Act} {Q : Exit → Act → World → Prop} (hgd : o.guard = none) (d s : Operand)
    (ho : o.op = .call { callee := .builtin .copy, args := #[d, s], argTypes := #[53, 53] }) (base g dCap sCap N : Nat) (sp : Option Addr) (hd : a.eval d = .slice (some ⟨g, 0, none⟩) N dCap) (hs : a.eval s = .slice sp N sCap)
    (Z : List Int) (hZ : Z.length = N) (hown : NU w base (.slice (some ⟨g, 0, none⟩) N dCap) Z) (X : List Int) (hM : SU w sp N sCap X)
    (h : ∀ w', NU w' base (.slice (some ⟨g, 0, none⟩) N dCap) X → w.grownBy w' (some g) → wpList Try.prog ops Q rest (a.put o.dst (goInt N)) w') : wpList Try.prog ops Q (o :: rest) a w := by
  have hX := hM.len
  cases sp with
  | none =>
    obtain ⟨rfl, rfl⟩ := hM.nil rfl
    have e1 : X = [] := List.length_eq_zero_iff.1 hX
    have e2 : Z = [] := List.length_eq_zero_iff.1 hZ
    subst e1 e2
    refine wpList_copy_nothing hgd d s 53 53 ho 44 Try.underlying53 sz32 _ _ 0 dCap 0 0 hd hs rfl ?_
    exact h w hown (gb_refl _ _)
  | some ad =>
    subst hX
    rcases hown.2 with ⟨k, _⟩ | ⟨g', cap, cur, k, hbg, hg, hnc, hcm, hcs, htake⟩
    · cases k
    · have k0 := k
      injection k with k1 k2 k3
      injection k1 with k1
      injection k1 with k1
      subst k1 k3
      have hcs : cur.size = dCap := by omega
      have hnc : X.length ≤ dCap := by rw [← hZ]; exact hnc
      refine wpList_copy_own hgd d s 53 53 ho 44 Try.underlying53 sz32 g 0 X.length dCap ad X.length sCap hd hs cur 44 hg (X.map (Value.int .u32)) (by simp) (hM.slr.2.2 ad rfl) (by simp; omega) (ints_one _ _) ?_
      have e := h (w.setRow g (cur.toList.take 0 ++ (X.map (Value.int .u32) ++ cur.toList.drop (0 + (X.map (Value.int .u32)).length))).toArray) ?_ ⟨rfl, rfl, rfl, by simp [World.setRow], fun k hk hn => setRow_other w g k _ (fun e => hn (by rw [e]))⟩
      · simpa using e
      · refine ⟨by simp, .inr ⟨g, dCap, _, rfl, hbg, setRow_heap w g _ _ 44 _ hg, hnc, hcm, ?_, ?_⟩⟩
        · simp [hcs]; omega
        · simp
set_option maxRecDepth 100000 in
set_option maxHeartbeats 2000000 in
theorem dup_any (w : World) (a : Option Addr) (n c : Nat) (L : List (List Int)) (h : SR w a n c L) (hn : n ≤ 1000000) (hl : ∀ j, (L.getD j []).length ≤ 1000000) : Calls Try.prog 38 #[.slice a n c] w (RetR L w) := by
  obtain ⟨i0, hi, hz0, hz1, hz2⟩ := info_parts infoRow
  obtain ⟨i1, hi1, hy0, hy1, hy2⟩ := info_parts infoU32
  have HI := Lib.hid hi
  have HI1 := Lib.hid hi1
  clear hi hi1
  have H := Lib.hid h
  have HL := Lib.hid hl
  have LN := Lib.hid h.len
  clear h hl
  go_enter Try.func38, Try.ntmps38
  go_wp2_with (at_make; refine wpList_make_full _ rfl _ _ 38 rfl w.heap.size 53 i0 (.slice none 0 0) 1 Try.underlying38 HI.out hz0 hz1 .i64 .i64 _ _ n rfl rfl ?c1 ?c2 ?c3 ?c4 ?c5 ?_)
  case c1 => first | rfl | omega
  case c2 => first | rfl | omega
  case c3 => rw [hz2]; omega
  case c4 => unfold maxLen; omega
  case c5 => simp
  intro w2 hown hg
  have O0 := Lib.hid (or_own (n := n) (by first | exact hown | simpa [made_zero] using hown))
  have G0 := Lib.hid hg
  clear hown hg
  go_wp2_with fail
  go_loopw [11] (fun s wr => ∃ k : Nat, k ≤ n ∧ s = .int .i64 k ∧ (∃ Vs, OR wr w.heap.size (.slice (some ⟨w.heap.size, 0, none⟩) n n) (up n k L) Vs) ∧ w.grownBy wr none) (fun s _ => n - (intOf s).toNat)
  case atStart => exact ⟨0, Nat.zero_le _, rfl, ⟨_, by rw [up_zero]; exact O0.out⟩, G0.out⟩
  case round =>
    obtain ⟨k, hk, rfl, ⟨Vs, hO⟩, hg⟩ := hrel
    have HO := Lib.hid hO
    have HG := Lib.hid hg
    clear hO hg O0 G0
    by_cases hlt : k < n
    · obtain ⟨ar, rfl⟩ := H.out.some (by omega)
      obtain ⟨A1, N1, C1, c0, r1⟩ := H.out.cells ar rfl k hlt
      have c1 := HG.out.cell c0 (by simp)
      have i0 : (0 : Int) ≤ (k : Int) := by omega
      have i2 : (k : Int) < (n : Int) := by omega
      have R1 := Lib.hid r1
      have N1b : N1 ≤ 1000000 := by rw [← r1.len]; exact HL.out k
      clear r1 c0
      go_wp2_with (at_make; refine wpList_make_full _ rfl _ _ 53 rfl wr.heap.size 44 i1 (.int .u32 0) 1 Try.underlying53 HI1.out hy0 hy1 .i64 .i64 _ _ N1 rfl rfl ?c1 ?c2 ?c3 ?c4 ?c5 ?_)
      case c1 => first | rfl | omega
      case c2 => first | rfl | omega
      case c3 => rw [hy2]; omega
      case c4 => unfold maxLen; omega
      case c5 => simp
      intro w3 hown hg
      have O3 := Lib.hid (HO.out.keep0 hg)
      have NZ := Lib.hid (show NU w3 wr.heap.size (.slice (some ⟨wr.heap.size, 0, none⟩) N1 N1) (List.replicate N1 0) by simpa [NU, made_zero] using hown)
      have f1 : w3.frozen? ⟨w.heap.size, k, none⟩ = false := by
        have := O3.out.out
        rw [up_len] at this
        exact this.frozenAt k
      have x1 : w3.cell? ⟨w.heap.size, k, none⟩ = some (Vs.getD k nilV) := by
        have o := O3.out.out
        have nv := O3.out.nV
        rw [up_len] at o nv
        rw [o.cellAt k (by omega), List.getD_eq_getElem?_getD, List.getElem?_eq_getElem (show k < Vs.length by omega)]
        rfl
      have G3 := Lib.hid hg
      clear hown hg
      generalize hV : Vs.getD k nilV = V0 at x1
      have HV0 := Lib.hid hV
      clear hV
      have O4 := Lib.hid (OR.put HO.out (up_len _ _ _) k hlt (.slice (some ⟨wr.heap.size, 0, none⟩) N1 N1) (List.replicate N1 0) G3.out (own_low NZ.out HG.out.size) (fun q e => by simp [Value.ownBlock] at e; omega) (zero_rng _))
      have N4 := Lib.hid (show NU (w3.setCell ⟨w.heap.size, k, none⟩ (.slice (some ⟨wr.heap.size, 0, none⟩) N1 N1)) w.heap.size (.slice (some ⟨wr.heap.size, 0, none⟩) N1 N1) (List.replicate N1 0) from by
        have q := O4.out.own k (by simp [up_len]; omega)
        have e1 : (Vs.set k (Value.slice (some ⟨wr.heap.size, 0, none⟩) N1 N1)).getD k nilV = .slice (some ⟨wr.heap.size, 0, none⟩) N1 N1 := getD_set_at _ _ _ _ (by rw [HO.out.nV, up_len]; exact hlt)
        have e2 : ((up n k L).set k (List.replicate N1 0)).getD k [] = List.replicate N1 0 := getD_set_at _ _ _ _ (by rw [up_len]; exact hlt)
        rw [e1, e2] at q
        exact q)
      have R4 := Lib.hid (show SU (w3.setCell ⟨w.heap.size, k, none⟩ (.slice (some ⟨wr.heap.size, 0, none⟩) N1 N1)) A1 N1 C1 (L.getD k []) from R1.out.keep0 (gb_put (gb_trans HG.out G3.out) (Nat.le_refl _)))
      have HG4 := Lib.hid (gb_put (i := k) (u := .slice (some ⟨wr.heap.size, 0, none⟩) N1 N1) (gb_trans HG.out G3.out) (Nat.le_refl _))
      have LW := Lib.hid HG.out.size
      clear O3 NZ
      go_wp2_with (refine ucopy_any rfl _ _ rfl w.heap.size wr.heap.size _ _ N1 A1 rfl rfl (List.replicate N1 0) (by simp) N4.out (L.getD k []) R4.out ?_; intro w5 n5 g5)
      have O5 := Lib.hid (O4.out.upd k (by simp [up_len]; omega) (L.getD k []) wr.heap.size (by rw [getD_set_at _ _ _ _ (by rw [HO.out.nV, up_len]; exact hlt)]; rfl) g5 (by rw [getD_set_at _ _ _ _ (by rw [HO.out.nV, up_len]; exact hlt)]; exact n5) R1.out.rng)
      have G5 := Lib.hid (gb_new (gb_trans (gb_any HG4.out) g5) LW.out)
      clear n5 g5 O4 N4 R4 HG4 f1 x1
      go_wp2
      go_roundw
      case rel => exact ⟨k + 1, by omega, by go_num, ⟨_, by rw [← up_set n k L hlt]; simpa using O5.out⟩, G5.out⟩
      case measure => simp [intOf]; omega
    · have hke : k = n := by omega
      subst hke
      rw [up_all L k LN.out] at HO
      go_wp2
      go_ret
      exact ⟨_, Vs, rfl, HO.out, HG.out⟩
end Go.Proofs.Ytjbimeahcldaoaa
