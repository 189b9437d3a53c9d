/- The walk of the program's Levels. -/
import Derived.Test.YtaikpjnegopelaaDgR
import Derived.Test.YtaikpjnegopelaaGrJ
namespace Go.Proofs.Ytaikpjnegopelaa
open Go.RowKit
set_option linter.unusedVariables false

/-- What the successors zs of v make of the levels O. -/
def fwV (g : List (List Int)) (v : Nat) : List Int → List Int → List Int
  | [], O => O
  | x :: zs, O => fwV g v zs (if 0 ≤ x ∧ x < (g.length : Int) then O.set x.toNat (max (O.getD x.toNat 0) (O.getD v 0 + 1)) else O)
def fwL (g : List (List Int)) (L : List Int) : Nat → List Int
  | 0 => tab g.length fun _ => 0
  | i + 1 => fwV g (L.getD i 0).toNat (g.getD (L.getD i 0).toNat []) (fwL g L i)
/-- The levels as the program gives them. -/
def fwG (g : List (List Int)) : List Int := match topG g with | none => [] | some L => fwL g L L.length

set_option maxRecDepth 100000 in
set_option maxHeartbeats 4000000 in
theorem levels_any (w : World) (a : Option Addr) (c : Nat) (g : List (List Int)) (h : SlG w a g.length c g) (hn : g.length ≤ 1000) (hb : ∀ v, v < g.length → (g.getD v []).length ≤ 1000) :
    Calls Try.prog 22 #[.slice a g.length c] w (RetNB w.heap.size (fwG g) (topG g).isSome w) := by
  obtain ⟨i0, hi, hz0, hz1, hz2⟩ := info_parts infoI64
  have HI := Lib.hid hi
  have HH := Lib.hid h
  have HB := Lib.hid hb
  clear h hi
  have HT := Lib.hid (topo_any w a c g HH.out hn HB.out)
  cases ht : topG g with
  | none =>
    rw [ht] at HT
    have HE := Lib.hid (show fwG g = [] by unfold fwG; rw [ht])
    clear ht
    go_enter Try.func22, Try.ntmps22
    go_wp2_with fail
    refine HT.out.mono ?_
    rintro e w1 ⟨V, rfl, q1, q2⟩
    have G1 := Lib.hid q2
    clear q1 q2
    go_wp2
    go_ret2
    exact ⟨_, rfl, by rw [HE.out]; exact NL.nil _ _, G1.out⟩
  | some L =>
    have HM := Lib.hid (topG_mem g L ht)
    rw [ht] at HT
    have HE := Lib.hid (show fwG g = fwL g L L.length by unfold fwG; rw [ht])
    clear ht
    have HLl := Lib.hid HM.out.1
    have hLb : L.length ≤ 1000 := by have := HLl.out; omega
    go_enter Try.func22, Try.ntmps22
    go_wp2_with fail
    refine HT.out.mono ?_
    rintro e w1 ⟨V, rfl, q1, q2⟩
    have q1 : NL w1 w.heap.size V L := q1
    obtain ⟨A, C, rfl⟩ := q1.shape
    have G1 := Lib.hid q2
    have HL := Lib.hid (q1.slr rfl)
    have HLo := Lib.hid q1
    have hs1 := q2.size
    clear q1 q2 HT
    go_wp2_with (at_make; refine wpList_make_full _ rfl _ _ 31 rfl w1.heap.size 3 i0 (.int .i64 0) 1 Try.underlying31 HI.out hz0 hz1 .i64 .i64 _ _ g.length rfl rfl ?c1 ?c2 ?c3 ?c4 ?c5 ?_)
    case c1 => first | rfl | omega
    case c2 => first | rfl | omega
    case c3 => rw [hz2]; omega
    case c4 => unfold maxLen; omega
    case c5 => simp
    intro w2 hown hg
    have N1 := Lib.hid (show NW w w1.heap.size w1.heap.size g.length (fwL g L 0) w2 by
      refine ⟨?_, tab_len _ _, gb_trans G1.out hg⟩
      unfold NL fwL
      rw [tab_len, tab_const, List.map_replicate, ← made_zero]
      first | exact hown | simpa using hown)
    have HL2 := Lib.hid (show OrdR A L w1.heap.size w2 from fun i hi => by
      cases A with
      | none => exact absurd (HL.out.2.1 rfl).1 (by omega)
      | some ad =>
        have c1 := HL.out.cellAt i hi
        have hb := World.block_lt_of_cell? w1 _ c1
        have hab : (ad.add i).block = ad.block := by unfold Addr.add; split <;> rfl
        exact ⟨ad, rfl, by rw [← hab]; exact hb, hg.cell c1 (by simp)⟩)
    clear hown hg HL HLo
    go_wp2_with fail
    go_loopw [23] (fun s wr => ∃ (i : Nat) (O : List Int), i ≤ L.length ∧ s = .int .i64 i ∧ NW w w1.heap.size w1.heap.size g.length O wr ∧ OrdR A L w1.heap.size wr ∧ O = fwL g L i ∧ (∀ k, 0 ≤ O.getD k 0 ∧ O.getD k 0 ≤ ((i * 1000 : Nat) : Int))) (fun s _ => L.length - (intOf s).toNat)
    case atStart =>
      refine ⟨0, _, Nat.zero_le _, rfl, N1.out, HL2.out, rfl, fun k => ?_⟩
      have := lvL_range g L 0 k
      rw [Nat.zero_mul] at this ⊢
      exact this
    case round =>
      obtain ⟨i, O, hi, rfl, q1, q2, q3, q4⟩ := hrel
      clear N1 HL2
      have N1 := Lib.hid q1
      have HL2 := Lib.hid q2
      have HO := Lib.hid q3
      have HR := Lib.hid q4
      clear q1 q2 q3 q4
      by_cases hlt : i < L.length
      · have i1 : (i : Int) < L.length := by omega
        obtain ⟨v, hx⟩ : ∃ v : Nat, L.getD i 0 = (v : Int) := ⟨(L.getD i 0).toNat, by have := HM.out.2 i hlt; omega⟩
        have hvn : v < g.length := by have := HM.out.2 i hlt; omega
        have ivn : (v : Int) < g.length := by omega
        have HS := Lib.hid (show fwV g v (g.getD v []) O = fwL g L (i + 1) by rw [fwL, hx, Int.toNat_natCast, HO.out])
        obtain ⟨ao, hA, hadb, c1⟩ := HL2.out i hlt
        rw [hx] at c1
        subst hA
        clear hx
        cases a with
        | none => exact absurd (HH.out.2.1 rfl).1 (by omega)
        | some ad =>
          obtain ⟨AR, CR, c0, r0, l1⟩ := HH.out.row v hvn
          have c4 := N1.out.2.2.cell c0 (by simp)
          have hbv := HB.out v hvn
          obtain ⟨zs, hz⟩ : ∃ zs, zs = g.getD v [] := ⟨_, rfl⟩
          rw [← hz] at c4 r0 l1 hbv HS
          have R0 := Lib.hid r0
          clear r0 hz c0
          go_wp2
          go_loopw [32] (fun s wr => ∃ (j : Nat) (O : List Int), j ≤ zs.length ∧ s = .int .i64 j ∧ NW w w1.heap.size w1.heap.size g.length O wr ∧ OrdR (some ao) L w1.heap.size wr ∧ fwV g v (zs.drop j) O = fwL g L (i + 1) ∧ (∀ k, 0 ≤ O.getD k 0 ∧ O.getD k 0 ≤ ((i * 1000 + j : Nat) : Int))) (fun s _ => zs.length - (intOf s).toNat)
          case atStart => exact ⟨0, O, Nat.zero_le _, rfl, N1.out, HL2.out, HS.out, HR.out⟩
          case round =>
            obtain ⟨j, O5, hj, rfl, q1, q2, q3, q4⟩ := hrel
            clear N1 HL2 HO HR HS c1 c4
            have N1 := Lib.hid q1
            have HL2 := Lib.hid q2
            have HS := Lib.hid q3
            have HR := Lib.hid q4
            clear q1 q2 q3 q4
            by_cases hjt : j < zs.length
            · have i2 : (j : Int) < zs.length := by omega
              cases AR with
              | none => exact absurd (R0.out.2.1 rfl).1 (by omega)
              | some ar =>
                have c2 := (R0.out.keep0 N1.out.2.2).cellAt j hjt
                have DR := Lib.hid (show zs.drop j = zs.getD j 0 :: zs.drop (j + 1) by rw [List.drop_eq_getElem_cons hjt]; simp [hjt])
                obtain ⟨x, hx⟩ : ∃ x, x = zs.getD j 0 := ⟨_, rfl⟩
                rw [← hx] at c2 DR
                clear hx
                have HS2 := Lib.hid (show fwV g v (zs.drop (j + 1)) (if 0 ≤ x ∧ x < (g.length : Int) then O5.set x.toNat (max (O5.getD x.toNat 0) (O5.getD v 0 + 1)) else O5) = fwL g L (i + 1) by
                  have := HS.out
                  rw [DR.out] at this
                  exact this)
                clear HS DR
                have HN := Lib.hid (fun w => isNode_any w (some ad) g.length c x)
                by_cases hnode : 0 ≤ x ∧ x < (g.length : Int)
                · simp only [decide_eq_true hnode] at HN
                  obtain ⟨xn, rfl⟩ : ∃ xn : Nat, x = (xn : Int) := ⟨x.toNat, by omega⟩
                  have hxn : xn < g.length := by omega
                  have ix : (xn : Int) < g.length := by omega
                  have HS3 := Lib.hid HS2.out
                  rw [if_pos hnode, Int.toNat_natCast] at HS3
                  have c5 := N1.out.at_ xn hxn
                  have c6 := N1.out.at_ v hvn
                  have f1 := N1.out.free xn
                  have hr1 := HR.out xn
                  have hr2 := HR.out v
                  have hij : i * 1000 ≤ 1000000 := by omega
                  have HR2 := Lib.hid (show ∀ k, 0 ≤ (O5.set xn (max (O5.getD xn 0) (O5.getD v 0 + 1))).getD k 0 ∧ (O5.set xn (max (O5.getD xn 0) (O5.getD v 0 + 1))).getD k 0 ≤ ((i * 1000 + (j + 1) : Nat) : Int) by
                    intro k
                    rw [getD_set]
                    have := HR.out k
                    split <;> omega)
                  have NX := Lib.hid (N1.out.put (by omega) xn (max (O5.getD xn 0) (O5.getD v 0 + 1)))
                  have LX := Lib.hid (HL2.out.set xn (.int .i64 (max (O5.getD xn 0) (O5.getD v 0 + 1))))
                  clear HS2 hnode HR
                  generalize O5.getD xn 0 = z1 at *
                  generalize O5.getD v 0 = z2 at *
                  have hz1 : z1 ≤ 3000000 := by omega
                  have hz2 : z2 ≤ 3000000 := by omega
                  go_wp2_with fail
                  refine (HN.out _).mono ?_
                  rintro e w3 ⟨rfl, rfl⟩
                  go_wp2
                  go_region
                  have e1 : (if z1 < z2 + 1 then z2 + 1 else z1) = max z1 (z2 + 1) := by split <;> omega
                  rw [e1]
                  have NY := Lib.hid (NX.out.keep0 (gb_drew _ none))
                  have LY := Lib.hid (LX.out.grow (gb_drew _ none))
                  clear NX LX e1
                  generalize max z1 (z2 + 1) = mz at *
                  go_wp2
                  go_roundw
                  case rel => exact ⟨j + 1, _, by omega, by go_num, NY.out, LY.out, HS3.out, HR2.out⟩
                  case measure => simp [intOf]; omega
                · simp only [decide_eq_false hnode] at HN
                  have HS3 := Lib.hid HS2.out
                  rw [if_neg hnode] at HS3
                  have HR2 := Lib.hid (show ∀ k, 0 ≤ O5.getD k 0 ∧ O5.getD k 0 ≤ ((i * 1000 + (j + 1) : Nat) : Int) from fun k => by have := HR.out k; omega)
                  clear hnode HS2
                  go_wp2_with fail
                  refine (HN.out _).mono ?_
                  rintro e w3 ⟨rfl, rfl⟩
                  go_wp2
                  go_roundw
                  case rel => exact ⟨j + 1, _, by omega, by go_num, N1.out, HL2.out, HS3.out, HR2.out⟩
                  case measure => simp [intOf]; omega
            · have hje : j = zs.length := by omega
              subst hje
              have E := Lib.hid (show O5 = fwL g L (i + 1) by have := HS.out; rw [List.drop_length] at this; exact this)
              have HR2 := Lib.hid (show ∀ k, 0 ≤ O5.getD k 0 ∧ O5.getD k 0 ≤ (((i + 1) * 1000 : Nat) : Int) from fun k => by have := HR.out k; omega)
              go_wp2
              go_roundw
              case rel => exact ⟨i + 1, _, by omega, by go_num, N1.out, HL2.out, E.out, HR2.out⟩
              case measure => simp [intOf]; omega
      · have hie : i = L.length := by omega
        subst hie
        go_wp2
        go_ret2
        exact ⟨_, rfl, by rw [HE.out, ← HO.out]; exact own_low N1.out.1 hs1, N1.out.2.2⟩
end Go.Proofs.Ytaikpjnegopelaa
