/- The walk of the reference's Levels. -/
import Derived.Test.YtaikpjnegopelaaGrI
import Derived.BigRegion
namespace Go.Proofs.Ytaikpjnegopelaa
open Go.RowKit
set_option linter.unusedVariables false

def lvIn (g : List (List Int)) (x : Nat) (o : List Int) : Nat → List Int
  | 0 => o
  | v + 1 => if gEdge g v x then (lvIn g x o v).set x (max ((lvIn g x o v).getD x 0) ((lvIn g x o v).getD v 0 + 1)) else lvIn g x o v
def lvL (g : List (List Int)) (L : List Int) : Nat → List Int
  | 0 => tab g.length fun _ => 0
  | i + 1 => lvIn g (L.getD i 0).toNat (lvL g L i) g.length
/-- The levels as the reference gives them. -/
def levG (g : List (List Int)) : List Int := match topG g with | none => [] | some L => lvL g L L.length
theorem getD_set (o : List Int) (x j : Nat) (v : Int) : (o.set x v).getD j 0 = if x = j ∧ x < o.length then v else o.getD j 0 := by
  rw [List.getD_eq_getElem?_getD, List.getD_eq_getElem?_getD, List.getElem?_set]
  by_cases e : x = j
  · subst e
    by_cases h : x < o.length
    · simp [h]
    · simp [h]
  · simp [e]
theorem lvIn_len (g : List (List Int)) (x : Nat) (o : List Int) (v : Nat) : (lvIn g x o v).length = o.length := by
  induction v with
  | zero => rfl
  | succ v ih => unfold lvIn; split <;> simp [ih]
theorem lvIn_range (g : List (List Int)) (x : Nat) (o : List Int) (B : Int) (h : ∀ j, 0 ≤ o.getD j 0 ∧ o.getD j 0 ≤ B) (v : Nat) : ∀ j, 0 ≤ (lvIn g x o v).getD j 0 ∧ (lvIn g x o v).getD j 0 ≤ B + v := by
  induction v with
  | zero => intro j; have := h j; exact ⟨this.1, by show o.getD j 0 ≤ _; omega⟩
  | succ v ih =>
    intro j
    unfold lvIn
    have h1 := ih j
    have h2 := ih x
    have h3 := ih v
    split
    · rw [getD_set]
      split <;> omega
    · omega
theorem lvL_len (g : List (List Int)) (L : List Int) (i : Nat) : (lvL g L i).length = g.length := by
  induction i with
  | zero => exact tab_len _ _
  | succ i ih => unfold lvL; rw [lvIn_len, ih]
theorem lvL_range (g : List (List Int)) (L : List Int) (i : Nat) : ∀ j, 0 ≤ (lvL g L i).getD j 0 ∧ (lvL g L i).getD j 0 ≤ ((i * g.length : Nat) : Int) := by
  induction i with
  | zero =>
    intro j
    unfold lvL
    by_cases h : j < g.length
    · rw [tab_at _ _ _ h]; simp
    · rw [List.getD_eq_getElem?_getD, List.getElem?_eq_none (by rw [tab_len]; omega)]; simp
  | succ i ih =>
    intro j
    unfold lvL
    have := lvIn_range g (L.getD i 0).toNat (lvL g L i) _ ih g.length j
    rw [Nat.succ_mul]
    omega
theorem topF_mem (g : List (List Int)) (f : Nat) : ∀ p L, topF g f p = some L → L.length = f ∧ ∀ i, i < L.length → 0 ≤ L.getD i 0 ∧ L.getD i 0 < g.length := by
  induction f with
  | zero => intro p L h; simp [topF] at h; subst h; simp
  | succ f ih =>
    intro p L h
    unfold topF at h
    split at h
    · simp at h
    · rename_i x hx
      rw [Option.map_eq_some_iff] at h
      obtain ⟨M, h1, rfl⟩ := h
      have := ih _ _ h1
      have hl := nxt_lt g p g.length 0 x hx
      refine ⟨by simp [this.1], ?_⟩
      intro i hi
      cases i with
      | zero => simp; omega
      | succ i => simpa using this.2 i (by simpa using hi)
theorem topG_mem (g : List (List Int)) (L : List Int) (h : topG g = some L) : L.length = g.length ∧ ∀ i, i < L.length → 0 ≤ L.getD i 0 ∧ L.getD i 0 < g.length := topF_mem g _ _ L h

theorem NW.keep0 {W w w2 : World} {base b n : Nat} {L : List Int} (h : NW W base b n L w) (k : w.grownBy w2 none) : NW W base b n L w2 := ⟨h.1.keep0 k, h.2.1, gb_trans h.2.2 k⟩
/-- The order's row, laid before block B. -/
def OrdR (A : Option Addr) (L : List Int) (B : Nat) (w : World) : Prop := ∀ i, i < L.length → ∃ ad, A = some ad ∧ ad.block < B ∧ w.cell? (ad.add i) = some (.int .i64 (L.getD i 0))
theorem OrdR.set {A : Option Addr} {L : List Int} {B : Nat} {w : World} (h : OrdR A L B w) (p : Nat) (v : Value) : OrdR A L B (w.setCell ⟨B, p, none⟩ v) := fun i hi => by
  obtain ⟨ad, h1, h2, h3⟩ := h i hi
  refine ⟨ad, h1, h2, (gb_set w B p v).cell h3 ?_⟩
  have hab : (ad.add i).block = ad.block := by unfold Addr.add; split <;> rfl
  simp
  omega
theorem OrdR.grow {A : Option Addr} {L : List Int} {B : Nat} {w w2 : World} (h : OrdR A L B w) (k : w.grownBy w2 none) : OrdR A L B w2 := fun i hi => by
  obtain ⟨ad, h1, h2, h3⟩ := h i hi
  exact ⟨ad, h1, h2, k.cell h3 (by simp)⟩

set_option maxRecDepth 100000 in
set_option maxHeartbeats 2000000 in
theorem rlev_any (w : World) (a : Option Addr) (n c : Nat) (g : List (List Int)) (h : SlG w a n c g) (hn : n ≤ 100000) :
    Calls Try.prog 23 #[.slice a n c] w (RetNB w.heap.size (levG g) (topG g).isSome w) := by
  obtain ⟨i0, hi, hz0, hz1, hz2⟩ := info_parts infoI64
  have HI := Lib.hid hi
  have HH := Lib.hid h
  have hl := h.1
  subst hl
  clear h hi
  have HT := Lib.hid (rtop_any w a g.length c g HH.out hn)
  cases ht : topG g with
  | none =>
    rw [ht] at HT
    have HE := Lib.hid (show levG g = [] by unfold levG; rw [ht])
    clear ht
    go_enter Try.func23, Try.ntmps23
    go_wp2_with fail
    refine HT.out.mono ?_
    rintro e w1 ⟨V, rfl, q1, q2⟩
    have G1 := Lib.hid q2
    clear q1 q2
    go_wp2
    go_ret2
    exact ⟨_, rfl, by rw [HE.out]; exact NL.nil _ _, G1.out⟩
  | some L =>
    have HM := Lib.hid (topG_mem g L ht)
    rw [ht] at HT
    have HE := Lib.hid (show levG g = lvL g L L.length by unfold levG; rw [ht])
    clear ht
    have HLl := Lib.hid HM.out.1
    have hLb : L.length ≤ 100000 := by have := HLl.out; omega
    go_enter Try.func23, Try.ntmps23
    go_wp2_with fail
    refine HT.out.mono ?_
    rintro e w1 ⟨V, rfl, q1, q2⟩
    have q1 : NL w1 w.heap.size V L := q1
    obtain ⟨A, C, rfl⟩ := q1.shape
    have G1 := Lib.hid q2
    have HL := Lib.hid (q1.slr rfl)
    have HLo := Lib.hid q1
    have hs1 := q2.size
    clear q1 q2 HT
    go_wp2_with (at_make; refine wpList_make_full _ rfl _ _ 31 rfl w1.heap.size 3 i0 (.int .i64 0) 1 Try.underlying31 HI.out hz0 hz1 .i64 .i64 _ _ g.length rfl rfl ?c1 ?c2 ?c3 ?c4 ?c5 ?_)
    case c1 => first | rfl | omega
    case c2 => first | rfl | omega
    case c3 => rw [hz2]; omega
    case c4 => unfold maxLen; omega
    case c5 => simp
    intro w2 hown hg
    have N1 := Lib.hid (show NW w w1.heap.size w1.heap.size g.length (lvL g L 0) w2 by
      refine ⟨?_, tab_len _ _, gb_trans G1.out hg⟩
      unfold NL lvL
      rw [tab_len, tab_const, List.map_replicate, ← made_zero]
      first | exact hown | simpa using hown)
    have HL2 := Lib.hid (show OrdR A L w1.heap.size w2 from fun i hi => by
      cases A with
      | none => exact absurd (HL.out.2.1 rfl).1 (by omega)
      | some ad =>
        have c1 := HL.out.cellAt i hi
        have hb := World.block_lt_of_cell? w1 _ c1
        have hab : (ad.add i).block = ad.block := by unfold Addr.add; split <;> rfl
        exact ⟨ad, rfl, by rw [← hab]; exact hb, hg.cell c1 (by simp)⟩)
    clear hown hg HL HLo
    go_wp2_with fail
    go_loopw [7] (fun s wr => ∃ i : Nat, i ≤ L.length ∧ s = .int .i64 i ∧ NW w w1.heap.size w1.heap.size g.length (lvL g L i) wr ∧ OrdR A L w1.heap.size wr) (fun s _ => L.length - (intOf s).toNat)
    case atStart => exact ⟨0, Nat.zero_le _, rfl, N1.out, HL2.out⟩
    case round =>
      obtain ⟨i, hi, rfl, q1, q2⟩ := hrel
      clear N1 HL2
      have N1 := Lib.hid q1
      have HL2 := Lib.hid q2
      clear q1 q2
      by_cases hlt : i < L.length
      · have i1 : (i : Int) < L.length := by omega
        obtain ⟨x, hx⟩ : ∃ x : Nat, L.getD i 0 = (x : Int) := ⟨(L.getD i 0).toNat, by have := HM.out.2 i hlt; omega⟩
        have hxn : x < g.length := by have := HM.out.2 i hlt; omega
        have HX := Lib.hid hx
        have HO := Lib.hid (show lvL g L (i + 1) = lvIn g x (lvL g L i) g.length by rw [lvL, hx, Int.toNat_natCast])
        have HO1 := Lib.hid (show (lvL g L i).length = g.length ∧ ∀ j, 0 ≤ (lvL g L i).getD j 0 ∧ (lvL g L i).getD j 0 ≤ 10000000000 from ⟨lvL_len g L i, fun j => by
          have h1 := lvL_range g L i j
          have h2 : i * g.length ≤ 100000 * 100000 := Nat.mul_le_mul (by omega) hn
          omega⟩)
        obtain ⟨O, hO⟩ : ∃ O, O = lvL g L i := ⟨_, rfl⟩
        rw [← hO] at HO HO1 N1
        clear hx hO
        go_wp2
        go_loopw [8] (fun s wr => ∃ v : Nat, v ≤ g.length ∧ s = .int .i64 v ∧ NW w w1.heap.size w1.heap.size g.length (lvIn g x O v) wr ∧ OrdR A L w1.heap.size wr) (fun s _ => g.length - (intOf s).toNat)
        case atStart => exact ⟨0, Nat.zero_le _, rfl, N1.out, HL2.out⟩
        case round =>
          obtain ⟨v, hv, rfl, q1, q2⟩ := hrel
          clear N1 HL2
          have N1 := Lib.hid q1
          have HL2 := Lib.hid q2
          have HH3 := Lib.hid (HH.out.keep0 q1.2.2)
          clear q1 q2
          by_cases hvt : v < g.length
          · have i2 : (v : Int) < g.length := by omega
            have ixn : (x : Int) < g.length := by omega
            obtain ⟨ad, hA, hadb, c1⟩ := HL2.out i hlt
            rw [HX.out] at c1
            subst hA
            by_cases he : gEdge g v x = true
            · have HE := Lib.hid he
              have c2 := N1.out.at_ x hxn
              have c3 := N1.out.at_ v hvt
              have f1 := N1.out.free x
              have hr := lvIn_range g x O 10000000000 HO1.out.2 v
              have hr1 := hr x
              have hr2 := hr v
              have HS := Lib.hid (show lvIn g x O (v + 1) = (lvIn g x O v).set x (max ((lvIn g x O v).getD x 0) ((lvIn g x O v).getD v 0 + 1)) by rw [lvIn, if_pos he])
              have NX := Lib.hid (N1.out.put (by omega) x (max ((lvIn g x O v).getD x 0) ((lvIn g x O v).getD v 0 + 1)))
              have LX := Lib.hid (HL2.out.set x (.int .i64 (max ((lvIn g x O v).getD x 0) ((lvIn g x O v).getD v 0 + 1))))
              rw [← HS.out] at NX
              clear hr he HS
              generalize (lvIn g x O v).getD x 0 = z1 at *
              generalize (lvIn g x O v).getD v 0 = z2 at *
              go_wp2_with fail
              refine (redge_any _ _ _ _ g v x HH3.out (by omega) (by omega)).mono ?_
              rintro e w3 ⟨rfl, rfl⟩
              rw [HE.out]
              go_wp2
              go_region
              have e1 : (if z1 < z2 + 1 then z2 + 1 else z1) = max z1 (z2 + 1) := by split <;> omega
              rw [e1]
              have NY := Lib.hid (NX.out.keep0 (gb_drew _ none))
              have LY := Lib.hid (LX.out.grow (gb_drew _ none))
              clear NX LX e1
              generalize max z1 (z2 + 1) = mz at *
              go_wp2
              go_roundw
              case rel => exact ⟨v + 1, by omega, by go_num, NY.out, LY.out⟩
              case measure => simp [intOf]; omega
            · have HE := Lib.hid (show gEdge g v x = false by simpa using he)
              have HS := Lib.hid (show lvIn g x O (v + 1) = lvIn g x O v by rw [lvIn, if_neg he])
              clear he
              go_wp2_with fail
              refine (redge_any _ _ _ _ g v x HH3.out (by omega) (by omega)).mono ?_
              rintro e w3 ⟨rfl, rfl⟩
              rw [HE.out]
              go_wp2
              go_roundw
              case rel => exact ⟨v + 1, by omega, by go_num, by rw [HS.out]; exact N1.out, HL2.out⟩
              case measure => simp [intOf]; omega
          · have hve : v = g.length := by omega
            subst hve
            have NX := Lib.hid (show NW w w1.heap.size w1.heap.size g.length (lvL g L (i + 1)) wr by rw [HO.out]; exact N1.out)
            clear N1
            go_wp2
            go_roundw
            case rel => exact ⟨i + 1, by omega, by go_num, NX.out, HL2.out⟩
            case measure => simp [intOf]; omega
      · have hie : i = L.length := by omega
        subst hie
        go_wp2
        go_ret2
        exact ⟨_, rfl, by rw [HE.out]; exact own_low N1.out.1 hs1, N1.out.2.2⟩
end Go.Proofs.Ytaikpjnegopelaa
