/- The law on repacking: its walk; no condition but that the arguments are slices of bytes. -/
import Derived.Test.YtiphcknnljjanaaIoPa
import Derived.Test.YtiphcknnljjanaaIoCp
namespace Go.Proofs.Ytiphcknnljjanaa
open Go.RowKit
set_option linter.unusedVariables false

theorem val_i {k : IntKind} {a b : Int} (h : a = b) : Value.int k a = .int k b := by rw [h]
theorem infoI64 : (Try.prog.info? 3).map (fun i => (i.zero, i.size, i.bytes)) = some (some (.int .i64 0), 1, 8) := by kernel_rfl
theorem width_any (x : Int) (w : World) (h : 0 ≤ x ∧ x ≤ 255) : Calls Try.prog 63 #[.int .u8 x] w fun e w' => e = .returned (.int .i64 (1 + x % 32)) ∧ w = w' := by
  go_enter Try.func63, Try.ntmps63
  go_wp2
  go_ret
  exact ⟨ret_i (by omega), rfl⟩
theorem repacks_off (a : Option Addr) (len cap : Nat) (a2 : Option Addr) (len2 cap2 : Nat) (W : World) (h : 200 < len ∨ 200 < len2) :
    Calls Try.prog 12 #[.slice a len cap, .slice a2 len2 cap2] W fun e w' => e = .returned (.bool true) ∧ Below W.heap.size W w' := by
  by_cases h1 : 200 < len
  · have k1 : (200 : Int) < len := by omega
    clear h
    go_enter Try.func12, Try.ntmps12
    go_wp2_with (go_at_call 41; refine (works_any _).mono ?_; rintro e w' ⟨rfl, g⟩)
    go_ret
    exact ⟨rfl, by assumption⟩
  · have k1 : ¬ (200 : Int) < len := by omega
    have k2 : (200 : Int) < len2 := by omega
    clear h
    go_enter Try.func12, Try.ntmps12
    go_wp2_with (go_at_call 41; refine (works_any _).mono ?_; rintro e w' ⟨rfl, g⟩)
    go_ret
    exact ⟨rfl, by assumption⟩

set_option maxRecDepth 100000 in
set_option maxHeartbeats 2000000 in
theorem repacks_on (a : Option Addr) (len cap : Nat) (bs : List Int) (a2 : Option Addr) (len2 cap2 : Nat) (ws : List Int) (W : World) (hs1 : SlR W a len cap (bs.map (Value.int .u8))) (hs2 : SlR W a2 len2 cap2 (ws.map (Value.int .u8)))
    (hb : ∀ x ∈ bs, 0 ≤ x ∧ x ≤ 255) (hw : ∀ x ∈ ws, 0 ≤ x ∧ x ≤ 255) (h1 : len ≤ 200) (h2 : len2 ≤ 200) :
    Calls Try.prog 12 #[.slice a len cap, .slice a2 len2 cap2] W fun e w' => e = .returned (.bool true) ∧ Below W.heap.size W w' := by
  obtain ⟨i0, hi, hz0, hz1, hz2⟩ := info_parts infoI64
  have hl1 : bs.length = len := by simpa using hs1.1
  have hl2 : ws.length = len2 := by simpa using hs2.1
  subst hl1; subst hl2
  have S1 := Lib.hid hs1
  have S2 := Lib.hid hs2
  have HI := Lib.hid hi
  have k1 : ¬ (200 : Int) < bs.length := by omega
  have k2 : ¬ (200 : Int) < ws.length := by omega
  clear hs1 hs2 hi
  go_enter Try.func12, Try.ntmps12
  go_wp2
  go_loopw [5, 6, 7] (fun lv left i wr => ∃ (k : Nat) (ls : List Int), k ≤ ws.length ∧ i = .int .i64 k ∧ ls.length = k ∧ goodL ls ∧ sumL ls ≤ 8 * bs.length ∧ left = .int .i64 ((8 * bs.length : Nat) - (sumL ls : Nat) : Int) ∧ wr.ownsRow W.heap.size 3 1 lv ls.length (ls.map (Value.int .i64)) ∧ Below W.heap.size W wr) (fun _ _ i _ => ws.length - (intOf i).toNat)
  case atStart => exact ⟨0, [], Nat.zero_le _, rfl, rfl, (by intro n hn; cases hn), Nat.zero_le _, by simp [sumL], World.ownsRow_nil _ _ _ _, Below.refl _ _⟩
  case round =>
    obtain ⟨k, ls, hk, rfl, hlk, hg, hsum, rfl, hown, hbel⟩ := hrel
    have LK := Lib.hid hlk
    have G := Lib.hid hg
    have B := Lib.hid hbel
    clear hlk hg hbel
    obtain ⟨av, cv, rfl⟩ := own_shape hown
    by_cases hlt : k < ws.length
    · by_cases hpos : sumL ls < 8 * bs.length
      · cases a2 with
        | none => exact absurd (S2.out.2.1 rfl).1 (by omega)
        | some ad2 =>
          have hc2 := (S2.out.below B.out).cellAt k hlt
          have hx := hw (ws.getD k 0) (by rw [List.getD_eq_getElem?_getD, List.getElem?_eq_getElem hlt]; exact List.getElem_mem _)
          generalize ws.getD k 0 = x at *
          have hkk : (k : Int) < ws.length := by omega
          have hposI : (0 : Int) < ((8 * bs.length : Nat) : Int) - (sumL ls : Nat) := by omega
          by_cases hm : 8 * (bs.length : Int) - (sumL ls : Int) < 1 + x % 32
          · have hown2 := hown.alloc (.cells #[.int .i64 (8 * (bs.length : Int) - (sumL ls : Int))] 3)
            clear hown
            go_wp2_with (first | (go_at_call 63; refine (width_any x _ hx).mono ?_; rintro e w1 ⟨rfl, rfl⟩) | (at_builtin; refine wpList_append_own _ rfl _ _ 44 rfl W.heap.size 3 i0 (.int .i64 0) 1 8 Try.underlying44 HI.out hz0 hz1 hz2 rfl (by decide) _ ls.length (ls.map (Value.int .i64)) rfl hown2 ⟨wr.heap.size, 0, none⟩ 1 1 [.int .i64 (8 * (bs.length : Int) - (sumL ls : Int))] rfl rfl ?c1A ?c2A ?c3A ?c4A ?c5A ?_))
            case c1A =>
              intro j u hj
              match j, hj with
              | 0, hj => simp at hj; subst hj; simp [Addr.add]
            case c2A => intro u hu; simp at hu; subst hu; rfl
            case c3A => have := LK.out; unfold maxLen; omega
            case c4A => have := LK.out; omega
            case c5A => have := B.out.size; simp; omega
            intro v' w3 hown3 hgrow _
            have O3 := Lib.hid (show w3.ownsRow W.heap.size 3 1 v' (ls ++ [8 * (bs.length : Int) - (sumL ls : Int)]).length ((ls ++ [8 * (bs.length : Int) - (sumL ls : Int)]).map (Value.int .i64)) by simpa using hown3)
            have B3 := Lib.hid (show Below W.heap.size W w3 from (B.out.alloc B.out.size _).grown hgrow (by have := B.out.size; simp; omega) (by intro g hg; exact (hown2.lt g hg).1))
            clear hown3 hgrow hown2
            have hsn := sumL_snoc ls (8 * (bs.length : Int) - (sumL ls : Int))
            go_wp2
            go_roundw
            case rel => exact ⟨k + 1, ls ++ [8 * (bs.length : Int) - (sumL ls : Int)], by omega, by go_num, by rw [List.length_append, LK.out]; rfl, goodL_snoc G.out (by omega), by omega, by rw [hsn]; exact val_i (by omega), O3.out, B3.out⟩
            case measure => simp [intOf]; omega
          · have hown2 := hown.alloc (.cells #[.int .i64 (1 + x % 32)] 3)
            clear hown
            go_wp2_with (first | (go_at_call 63; refine (width_any x _ hx).mono ?_; rintro e w1 ⟨rfl, rfl⟩) | (at_builtin; refine wpList_append_own _ rfl _ _ 44 rfl W.heap.size 3 i0 (.int .i64 0) 1 8 Try.underlying44 HI.out hz0 hz1 hz2 rfl (by decide) _ ls.length (ls.map (Value.int .i64)) rfl hown2 ⟨wr.heap.size, 0, none⟩ 1 1 [.int .i64 (1 + x % 32)] rfl rfl ?c1B ?c2B ?c3B ?c4B ?c5B ?_))
            case c1B =>
              intro j u hj
              match j, hj with
              | 0, hj => simp at hj; subst hj; simp [Addr.add]
            case c2B => intro u hu; simp at hu; subst hu; rfl
            case c3B => have := LK.out; unfold maxLen; omega
            case c4B => have := LK.out; omega
            case c5B => have := B.out.size; simp; omega
            intro v' w3 hown3 hgrow _
            have O3 := Lib.hid (show w3.ownsRow W.heap.size 3 1 v' (ls ++ [1 + x % 32]).length ((ls ++ [1 + x % 32]).map (Value.int .i64)) by simpa using hown3)
            have B3 := Lib.hid (show Below W.heap.size W w3 from (B.out.alloc B.out.size _).grown hgrow (by have := B.out.size; simp; omega) (by intro g hg; exact (hown2.lt g hg).1))
            clear hown3 hgrow hown2
            have hsn := sumL_snoc ls (1 + x % 32)
            go_wp2
            go_roundw
            case rel => exact ⟨k + 1, ls ++ [1 + x % 32], by omega, by go_num, by rw [List.length_append, LK.out]; rfl, goodL_snoc G.out (by omega), by omega, by rw [hsn]; exact val_i (by omega), O3.out, B3.out⟩
            case measure => simp [intOf]; omega
      · have zz : ¬ (0 : Int) < ((8 * bs.length : Nat) : Int) - (sumL ls : Nat) := by omega
        have hkk : (k : Int) < ws.length := by omega
        have hsum2 : sumL ls = 8 * bs.length := by omega
        have he := repack_eq bs ls hb G.out hsum2
        have hlen : ls.length ≤ 1000 := by rw [LK.out]; omega
        have hu := unpack_any wr a bs.length cap bs (S1.out.below B.out) hb (by omega) av ls.length cv ls (own_slr hown) hlen
        rw [he.1] at hu
        have HU := Lib.hid hu
        have HE := Lib.hid he.2
        have NR := Lib.hid (numsB_range bs ls 0 G.out)
        have OW := Lib.hid hown
        have z0 : ¬ (0 : Int) < 8 * (bs.length : Int) - (sumL ls : Int) := by omega
        clear hu he hown hsum2
        go_wp2_with fail
        refine HU.out.mono ?_
        rintro e w1 ⟨v1, rfl, b1, o1⟩
        have o2 := o1
        rw [numsB_len] at o2
        obtain ⟨a1, c1, rfl⟩ := own_shape o2
        have BW := Lib.hid (below_step B.out B.out.size b1)
        have hp := pack_any w1 a1 ls.length c1 (numsB bs 0 ls) ls (own_slr o2) av ls.length cv (own_slr (own_keep0 OW.out (gb_of_below b1))) hlen NR.out
        rw [HE.out] at hp
        have HP := Lib.hid hp
        clear hp o1 o2 b1 HU
        go_wp2_with fail
        refine HP.out.mono ?_
        rintro e w2 ⟨v2, rfl, b2, o2, _⟩
        obtain ⟨a2, c2, rfl⟩ := own_shape o2
        have BX := Lib.hid (below_step BW.out BW.out.size b2)
        have hs1 := conv_str w2 _ _ _ bs (own_slr o2)
        have hs2 := conv_str w2 _ _ _ bs (S1.out.below BX.out)
        clear b2 o2 HP
        go_wp2_with fail
        refine (works_any _).mono ?_
        rintro e w3 ⟨rfl, b3⟩
        have BY := Lib.hid (below_step BX.out BX.out.size b3)
        clear hs1 hs2 b3
        go_wp2
        go_ret
        exact ⟨rfl, BY.out⟩
    · have hkk : ¬ (k : Int) < ws.length := by omega
      by_cases hpos : sumL ls < 8 * bs.length
      · have hlen : ls.length ≤ 1000 := by rw [LK.out]; omega
        have hu := unpack_any wr a bs.length cap bs (S1.out.below B.out) hb (by omega) av ls.length cv ls (own_slr hown) hlen
        rw [unpack_left bs ls G.out hpos] at hu
        have HU := Lib.hid hu
        have z0 : (0 : Int) < 8 * (bs.length : Int) - (sumL ls : Int) := by omega
        clear hu hown
        go_wp2_with fail
        refine HU.out.mono ?_
        rintro e w1 ⟨v1, rfl, b1, o1⟩
        obtain ⟨a1, c1, rfl⟩ := own_shape o1
        have BW := Lib.hid (below_step B.out B.out.size b1)
        clear o1 b1 HU
        go_wp2_with fail
        refine (works_any _).mono ?_
        rintro e w3 ⟨rfl, b3⟩
        have BY := Lib.hid (below_step BW.out BW.out.size b3)
        clear b3
        go_wp2
        go_ret
        exact ⟨rfl, BY.out⟩
      · have hsum2 : sumL ls = 8 * bs.length := by omega
        have he := repack_eq bs ls hb G.out hsum2
        have hlen : ls.length ≤ 1000 := by rw [LK.out]; omega
        have hu := unpack_any wr a bs.length cap bs (S1.out.below B.out) hb (by omega) av ls.length cv ls (own_slr hown) hlen
        rw [he.1] at hu
        have HU := Lib.hid hu
        have HE := Lib.hid he.2
        have NR := Lib.hid (numsB_range bs ls 0 G.out)
        have OW := Lib.hid hown
        have z0 : ¬ (0 : Int) < 8 * (bs.length : Int) - (sumL ls : Int) := by omega
        clear hu he hown hsum2
        go_wp2_with fail
        refine HU.out.mono ?_
        rintro e w1 ⟨v1, rfl, b1, o1⟩
        have o2 := o1
        rw [numsB_len] at o2
        obtain ⟨a1, c1, rfl⟩ := own_shape o2
        have BW := Lib.hid (below_step B.out B.out.size b1)
        have hp := pack_any w1 a1 ls.length c1 (numsB bs 0 ls) ls (own_slr o2) av ls.length cv (own_slr (own_keep0 OW.out (gb_of_below b1))) hlen NR.out
        rw [HE.out] at hp
        have HP := Lib.hid hp
        clear hp o1 o2 b1 HU
        go_wp2_with fail
        refine HP.out.mono ?_
        rintro e w2 ⟨v2, rfl, b2, o2, _⟩
        obtain ⟨a2, c2, rfl⟩ := own_shape o2
        have BX := Lib.hid (below_step BW.out BW.out.size b2)
        have hs1 := conv_str w2 _ _ _ bs (own_slr o2)
        have hs2 := conv_str w2 _ _ _ bs (S1.out.below BX.out)
        clear b2 o2 HP
        go_wp2_with fail
        refine (works_any _).mono ?_
        rintro e w3 ⟨rfl, b3⟩
        have BY := Lib.hid (below_step BX.out BX.out.size b3)
        clear hs1 hs2 b3
        go_wp2
        go_ret
        exact ⟨rfl, BY.out⟩

theorem repacks_walk (a : Option Addr) (len cap : Nat) (z : List Int) (a2 : Option Addr) (len2 cap2 : Nat) (z2 : List Int) (W : World) (h : IsRow .u8 W a len cap z) (h2 : IsRow .u8 W a2 len2 cap2 z2) :
    Calls Try.prog 12 #[.slice a len cap, .slice a2 len2 cap2] W fun e w' => e = .returned (.bool true) ∧ Below W.heap.size W w' := by
  by_cases hs : 200 < len ∨ 200 < len2
  · exact repacks_off a len cap a2 len2 cap2 W hs
  · exact repacks_on a len cap (z.take len) a2 len2 cap2 (z2.take len2) W (row_slr h) (row_slr h2) (fun x hx => u8_bd (row_wf h x hx)) (fun x hx => u8_bd (row_wf h2 x hx)) (by omega) (by omega)
end Go.Proofs.Ytiphcknnljjanaa
