/- The program's Reverse: the walk. -/
import Derived.Test.YtaikpjnegopelaaDgD
namespace Go.Proofs.Ytaikpjnegopelaa
open Go.RowKit
set_option linter.unusedVariables false

theorem alloc_size (w : World) (o : Obj) : (w.alloc o).heap.size = w.heap.size + 1 := by show (w.heap.push o).size = _; simp
set_option maxRecDepth 100000 in
set_option maxHeartbeats 4000000 in
theorem rev_any (w : World) (a : Option Addr) (n c : Nat) (g : List (List Int)) (h : SlG w a n c g) (hn : n ≤ 100000) :
    Calls Try.prog 29 #[.slice a n c] w (RetG n (revG g) w) := by
  obtain ⟨i0, hi, hz0, hz1, hz2⟩ := info_parts infoInts
  have HI := Lib.hid hi
  have HH := Lib.hid h
  have hl := h.1
  clear hi h
  subst hl
  go_enter Try.func29, Try.ntmps29
  go_wp2_with (at_make; refine wpList_make_full _ rfl _ _ 22 rfl w.heap.size 31 i0 (.slice none 0 0) 1 Try.underlying22 HI.out hz0 hz1 .i64 .i64 _ _ g.length rfl rfl ?c1 ?c2 ?c3 ?c4 ?c5 ?_)
  case c1 => first | rfl | omega
  case c2 => first | rfl | omega
  case c3 => rw [hz2]; omega
  case c4 => unfold maxLen; omega
  case c5 => simp
  intro w2 hown hg
  have N1 := Lib.hid (show RR w w.heap.size g.length (rowsP g 0 []) (List.replicate g.length nilV) w2 by
    rcases hown.2 with ⟨h1, _⟩ | ⟨b, cap, cur, h1, h2, h3, h4, h5, h6, h7⟩
    · injection h1 with h1; cases h1
    · injection h1 with h1 _ h8
      injection h1 with h1; injection h1 with h1
      subst h1; subst h8
      rw [made_zero] at h7
      have e : cur = (List.replicate g.length (Value.slice none 0 0)).toArray := by
        apply Array.toList_inj.1
        rw [← h7, List.take_of_length_le]
        rw [Array.length_toList, h6]; exact Nat.le_refl _
      subst e
      have ev : ∀ x, x < g.length → (List.replicate g.length nilV).getD x nilV = nilV := fun x hx => by simp [hx]
      refine ⟨h3, by simp, by rw [rowsP_len], ?_, ?_, hg, Nat.le_refl _⟩
      · intro x hx
        rw [ev x hx, rowsP_start]
        have e2 : (List.replicate g.length ([] : List Int)).getD x [] = [] := by simp [hx]
        rw [e2]
        exact NL.nil _ _
      · intro x y hx hy _ q hq
        rw [ev x hx] at hq
        cases hq)
  clear hown hg
  go_wp2_with fail
  go_loopw [14] (fun i wr => ∃ (v : Nat) (Vs : List Value), v ≤ g.length ∧ i = .int .i64 v ∧ RR w w.heap.size g.length (rowsP g v []) Vs wr) (fun i _ => g.length - (intOf i).toNat)
  case atStart => exact ⟨0, _, Nat.zero_le _, rfl, N1.out⟩
  case round =>
    obtain ⟨v, Vs, hv, rfl, q1⟩ := hrel
    clear N1
    have N1 := Lib.hid q1
    clear q1
    by_cases hvt : v < g.length
    · have i1 : (v : Int) < g.length := by omega
      cases a with
      | none => exact absurd (HH.out.2.1 rfl).1 (by omega)
      | some ad =>
        obtain ⟨A, C, c0, r0, l1⟩ := HH.out.row v hvt
        have c1 := N1.out.grown.cell c0 (by simp)
        have NX := Lib.hid (rowsP_next g v hvt)
        obtain ⟨zs, hz⟩ : ∃ zs, zs = g.getD v [] := ⟨_, rfl⟩
        rw [← hz] at c1 r0 l1 NX
        have R0 := Lib.hid r0
        clear r0 hz c0
        go_wp2
        go_loopw [21] (fun i wr => ∃ (j : Nat) (Vs2 : List Value), j ≤ zs.length ∧ i = .int .i64 j ∧ RR w w.heap.size g.length (rowsP g v (zs.take j)) Vs2 wr) (fun i _ => zs.length - (intOf i).toNat)
        case atStart => exact ⟨0, Vs, Nat.zero_le _, rfl, N1.out⟩
        case round =>
          obtain ⟨j, Vs2, hj, rfl, q1⟩ := hrel
          clear N1
          have N1 := Lib.hid q1
          clear q1
          by_cases hjt : j < zs.length
          · have i2 : (j : Int) < zs.length := by omega
            cases A with
            | none => exact absurd (R0.out.2.1 rfl).1 (by omega)
            | some ar =>
              have c2 := (R0.out.keep0 N1.out.grown).cellAt j hjt
              have TS := Lib.hid (show zs.take (j + 1) = zs.take j ++ [zs.getD j 0] by rw [List.take_add_one, List.getElem?_eq_getElem hjt]; simp [hjt])
              obtain ⟨x, hx⟩ : ∃ x, x = zs.getD j 0 := ⟨_, rfl⟩
              rw [← hx] at c2 TS
              clear hx
              have HN := Lib.hid (fun w => isNode_any w (some ad) g.length c x)
              by_cases hnode : 0 ≤ x ∧ x < (g.length : Int)
              · simp only [decide_eq_true hnode] at HN
                obtain ⟨xn, rfl⟩ : ∃ xn : Nat, x = (xn : Int) := ⟨x.toNat, by omega⟩
                have hxn : xn < g.length := by omega
                have ix : (xn : Int) < g.length := by omega
                have cr := N1.out.cell xn hxn
                have fr := N1.out.blk.free xn
                have ow := N1.out.own xn hxn
                have LA := Lib.hid (rowsP_last g v (zs.take j) xn hxn)
                have hsm := rowsP_small g v (zs.take j) xn hxn
                have NW1 := Lib.hid (rowsP_new g v (zs.take j) xn hxn)
                have OLD := Lib.hid (rowsP_old g v (zs.take j) (xn : Int))
                obtain ⟨L, hL⟩ : ∃ L, L = (rowsP g v (zs.take j)).getD xn [] := ⟨_, rfl⟩
                rw [← hL] at ow LA hsm NW1
                obtain ⟨la, lc, hlv⟩ := ow.shape
                rw [hlv] at cr ow
                have OW1 := Lib.hid ow
                have HLV := Lib.hid hlv
                have HLE := Lib.hid hL
                clear hnode hL hlv ow
                by_cases hemp : L.length = 0
                · obtain rfl : L = [] := List.eq_nil_of_length_eq_zero hemp
                  have hnm : ¬ (xn : Int) ∈ zs.take j := fun hm => by
                    have e := HLE.out
                    rw [rowsP_at _ _ _ _ hxn, if_pos hm] at e
                    simp at e
                  have NA := Lib.hid (N1.out.keep (gb_alloc wr (.cells #[.int .i64 v] 3) none))
                  have SZ := Lib.hid (show w.heap.size + 1 ≤ (wr.alloc (.cells #[.int .i64 v] 3)).heap.size from NA.out.blk.lt)
                  go_wp2_with fail
                  refine (HN.out _).mono ?_
                  rintro e w3 ⟨rfl, rfl⟩
                  go_wp2_with (at_builtin; refine npush_fresh rfl _ _ rfl (w.heap.size + 1) _ [] rfl (OW1.out.keep0 (gb_alloc _ _ none)) _ _ (v : Int) rfl (slr_one _ _ _ _ _ rfl) (by simp) SZ.out ?_)
                  intro V4 w4 o4 g4 b4
                  obtain ⟨va, vc, rfl⟩ := o4.shape
                  have ST := Lib.hid (NA.out.step xn hxn _ _ o4 (by rw [HLV.out]; exact g4) (by rw [HLV.out, alloc_size]; exact b4))
                  have NWX := NW1.out hnm
                  rw [List.nil_append] at NWX
                  rw [NWX, ← TS.out] at ST
                  have hkb : some w.heap.size ≠ (Value.slice la ([] : List Int).length lc).ownBlock := fun e => by
                    have := (World.ownsRow.lt OW1.out w.heap.size e.symm).1
                    omega
                  have B4 := NA.out.blk.keep g4 hkb
                  have f4 := B4.free xn
                  have c4 : w4.cell? ⟨w.heap.size, xn, none⟩ = some (.slice la 0 lc) := by
                    have hq : Vs2.toArray[xn]? = some (Vs2.getD xn nilV) := by simp [NA.out.nV, hxn]
                    rw [B4.cell xn, hq, HLV.out]
                    rfl
                  clear o4 g4 b4 B4 hkb NA SZ cr fr
                  go_wp2
                  go_roundw
                  case rel => exact ⟨j + 1, _, by omega, by go_num, ST.out⟩
                  case measure => simp [intOf]; omega
                · obtain ⟨lg, ld, hh⟩ := OW1.out.headn rfl (by omega)
                  cases hh
                  obtain ⟨p, hp⟩ : ∃ p, L.length = p + 1 := ⟨L.length - 1, by omega⟩
                  have cl := OW1.out.at_ rfl p (by omega)
                  have LA2 := Lib.hid (LA.out (by intro h; rw [h] at hp; simp at hp))
                  rw [hp, Nat.add_sub_cancel] at LA2
                  obtain ⟨y, hy⟩ : ∃ y, y = L.getD p 0 := ⟨_, rfl⟩
                  rw [← hy] at cl LA2
                  have hsub : (L.length : Int) - 1 = (p : Int) := by omega
                  have hpl : p < L.length := by omega
                  have hl0 : ((L.length : Int) == 0) = false := by rw [beq_eq_false_iff_ne]; omega
                  clear hy hemp hp
                  by_cases hyv : y = (v : Int)
                  · have ROW := Lib.hid (show rowsP g v (zs.take (j + 1)) = rowsP g v (zs.take j) by rw [TS.out]; exact OLD.out (LA2.out.1 hyv))
                    have d1 : (y == (v : Int)) = true := by rw [beq_iff_eq]; exact hyv
                    clear hyv LA2 OLD
                    go_wp2_with fail
                    refine (HN.out _).mono ?_
                    rintro e w3 ⟨rfl, rfl⟩
                    go_wp2
                    go_roundw
                    case rel => exact ⟨j + 1, Vs2, by omega, by go_num, by rw [ROW.out]; exact N1.out⟩
                    case measure => simp [intOf]; omega
                  · have hnm : ¬ (xn : Int) ∈ zs.take j := fun hm => hyv (LA2.out.2 hm)
                    have d1 : (y == (v : Int)) = false := by rw [beq_eq_false_iff_ne]; exact hyv
                    clear hyv LA2 OLD
                    have NA := Lib.hid (N1.out.keep (gb_alloc wr (.cells #[.int .i64 v] 3) none))
                    have SZ := Lib.hid (show w.heap.size + 1 ≤ (wr.alloc (.cells #[.int .i64 v] 3)).heap.size from NA.out.blk.lt)
                    go_wp2_with fail
                    refine (HN.out _).mono ?_
                    rintro e w3 ⟨rfl, rfl⟩
                    go_wp2_with (at_builtin; refine npush_fresh rfl _ _ rfl (w.heap.size + 1) _ L rfl (OW1.out.keep0 (gb_alloc _ _ none)) _ _ (v : Int) rfl (slr_one _ _ _ _ _ rfl) (by omega) SZ.out ?_)
                    intro V4 w4 o4 g4 b4
                    obtain ⟨va, vc, rfl⟩ := o4.shape
                    have ST := Lib.hid (NA.out.step xn hxn _ _ o4 (by rw [HLV.out]; exact g4) (by rw [HLV.out, alloc_size]; exact b4))
                    rw [NW1.out hnm, ← TS.out, show (L ++ [(v : Int)]).length = L.length + 1 by simp] at ST
                    have hkb : some w.heap.size ≠ (Value.slice (some ⟨lg, 0, none⟩) L.length lc).ownBlock := fun e => by
                      have := (World.ownsRow.lt OW1.out w.heap.size e.symm).1
                      omega
                    have B4 := NA.out.blk.keep g4 hkb
                    have f4 := B4.free xn
                    have c4 : w4.cell? ⟨w.heap.size, xn, none⟩ = some (.slice (some ⟨lg, 0, none⟩) L.length lc) := by
                      have hq : Vs2.toArray[xn]? = some (Vs2.getD xn nilV) := by simp [NA.out.nV, hxn]
                      rw [B4.cell xn, hq, HLV.out]
                    clear o4 g4 b4 B4 hkb NA SZ cr fr
                    go_wp2
                    go_roundw
                    case rel => exact ⟨j + 1, _, by omega, by go_num, ST.out⟩
                    case measure => simp [intOf]; omega
              · simp only [decide_eq_false hnode] at HN
                have ROW := Lib.hid (show rowsP g v (zs.take (j + 1)) = rowsP g v (zs.take j) by rw [TS.out]; exact rowsP_off g v _ x hnode)
                clear hnode
                go_wp2_with fail
                refine (HN.out _).mono ?_
                rintro e w3 ⟨rfl, rfl⟩
                go_wp2
                go_roundw
                case rel => exact ⟨j + 1, Vs2, by omega, by go_num, by rw [ROW.out]; exact N1.out⟩
                case measure => simp [intOf]; omega
          · have hje : j = zs.length := by omega
            have ROW := Lib.hid (show rowsP g v (zs.take j) = rowsP g (v + 1) [] by rw [hje, List.take_length]; exact NX.out)
            rw [ROW.out] at N1
            subst hje
            go_wp2
            go_roundw
            case rel => exact ⟨v + 1, Vs2, by omega, by go_num, N1.out⟩
            case measure => simp [intOf]; omega
    · have hve : v = g.length := by omega
      have ROW := Lib.hid (show rowsP g v [] = revG g by rw [hve]; exact rowsP_end g)
      subst hve
      have SL := Lib.hid (N1.out.slg hn (fun x hx => by have := rowsP_small g g.length [] x hx; omega))
      rw [ROW.out] at SL
      go_wp2
      go_ret
      exact ⟨_, Nat.le_refl _, rfl, SL.out, N1.out.grown⟩
end Go.Proofs.Ytaikpjnegopelaa
