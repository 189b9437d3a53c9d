/- The law on round trips: its walk; no condition but that the arguments are slices of numbers. -/
import Derived.Test.YtiphcknnljjanaaIoRt
import Derived.Test.YtiphcknnljjanaaIoRp
namespace Go.Proofs.Ytiphcknnljjanaa
open Go.RowKit
set_option linter.unusedVariables false

theorem round_off (a : Option Addr) (len cap : Nat) (a2 : Option Addr) (len2 cap2 : Nat) (W : World) (h : 60 < len ∨ len2 ≠ len) :
    Calls Try.prog 11 #[.slice a len cap, .slice a2 len2 cap2] W fun e w' => e = .returned (.bool true) ∧ Below W.heap.size W w' := by
  by_cases h1 : 60 < len
  · have k1 : (60 : Int) < len := by omega
    clear h
    go_enter Try.func11, Try.ntmps11
    go_wp2_with (go_at_call 41; refine (works_any _).mono ?_; rintro e w' ⟨rfl, g⟩)
    go_ret
    exact ⟨rfl, by assumption⟩
  · have k1 : ¬ (60 : Int) < len := by omega
    have k2 : ((len2 : Int) != len) = true := by rw [bne_iff_ne]; omega
    clear h
    go_enter Try.func11, Try.ntmps11
    go_wp2_with (go_at_call 41; refine (works_any _).mono ?_; rintro e w' ⟨rfl, g⟩)
    go_ret
    exact ⟨rfl, by assumption⟩

/-- Rows of other numbers stand while a writer writes. -/
theorem own_gt {w w2 : World} {base b2 : Nat} {e : TypeId} {size n : Nat} {v : Value} {xs : List Value} (h : w.ownsRow b2 e size v n xs) (k : GT base w w2) (h1 : e ≠ 5) (h2 : e ≠ 104) : w2.ownsRow b2 e size v n xs := by
  refine ⟨h.1, ?_⟩
  rcases h.2 with q | ⟨g, cap, cur, q1, q2, q3, q4⟩
  · exact .inl q
  · exact .inr ⟨g, cap, cur, q1, q2, k.kind g e cur q3 h1 h2, q4⟩
theorem Wtr.other {w w2 : World} {base r s b2 n : Nat} {V U : Value} {L : List Bool} {xs : List Value} (h : Wtr w base r s V L) (hU : w.ownsRow b2 22 1 U n xs) (k : w.grownBy w2 U.ownBlock) : Wtr w2 base r s V L :=
  ⟨h.wb.keep k (fun e => own_ne hU h.wb (by decide) e.symm), ⟨h.st.sb.keep k (fun e => own_ne hU h.st.sb (by decide) e.symm), h.st.own.kept k (own_two h.st.own hU (by decide)), h.st.low⟩⟩

set_option maxRecDepth 100000 in
set_option maxHeartbeats 3000000 in
theorem round_on (a : Option Addr) (cap : Nat) (vals : List Int) (a2 : Option Addr) (cap2 : Nat) (ws : List Int) (m : Nat) (W : World) (hs1 : SlR W a m cap (vals.map (Value.int .u32))) (hs2 : SlR W a2 m cap2 (ws.map (Value.int .u8)))
    (hv : ∀ x ∈ vals, 0 ≤ x ∧ x < 4294967296) (hw : ∀ x ∈ ws, 0 ≤ x ∧ x ≤ 255) (h1 : m ≤ 60) :
    Calls Try.prog 11 #[.slice a m cap, .slice a2 m cap2] W fun e w' => e = .returned (.bool true) ∧ Below W.heap.size W w' := by
  obtain ⟨i0, hi, hz0, hz1, hz2⟩ := info_parts infoU32
  have E1 := Lib.hid (show vals.length = m by simpa using hs1.1)
  have E2 := Lib.hid (show ws.length = m by simpa using hs2.1)
  have S1 := Lib.hid hs1
  have S2 := Lib.hid hs2
  have HI := Lib.hid hi
  have k1 : ¬ (60 : Int) < m := by omega
  have k2 : ((m : Int) != m) = false := by simp
  have HV := Lib.hid (show ∀ k, k < m → 0 ≤ vals.getD k 0 ∧ vals.getD k 0 < 4294967296 from fun k hk => hv _ (by rw [List.getD_eq_getElem?_getD, List.getElem?_eq_getElem (by rw [E1.out]; exact hk)]; exact List.getElem_mem _))
  have HWS := Lib.hid (show ∀ k, k < m → 0 ≤ ws.getD k 0 ∧ ws.getD k 0 ≤ 255 from fun k hk => hw _ (by rw [List.getD_eq_getElem?_getD, List.getElem?_eq_getElem (by rw [E2.out]; exact hk)]; exact List.getElem_mem _))
  clear hs1 hs2 hi hv hw
  go_enter Try.func11, Try.ntmps11
  go_wp2_with fail
  refine (newWriter_any _).mono ?_
  rintro e w1 ⟨rfl, g1, wt1⟩
  have B1 := Lib.hid (show Below W.heap.size W w1 from (Below.refl _ _).grown g1 (Nat.le_refl _) (by intro k hk; cases hk))
  have WT1 := Lib.hid wt1
  clear g1 wt1
  go_wp2_with fail
  go_loopw [6, 7, 8] (fun tot lv i wr => ∃ (k : Nat) (V : Value), k ≤ m ∧ i = .int .i64 k ∧ tot = .int .i64 (Lk vals ws k).length ∧ wr.ownsRow W.heap.size 22 1 lv (vk vals ws k).length ((vk vals ws k).map (Value.int .u32)) ∧ Wtr wr W.heap.size (W.heap.size + 1) W.heap.size V (Lk vals ws k) ∧ Below W.heap.size W wr) (fun _ _ i _ => m - (intOf i).toNat)
  case atStart => exact ⟨0, _, Nat.zero_le _, rfl, rfl, World.ownsRow_nil _ _ _ _, WT1.out, B1.out⟩
  case round =>
    obtain ⟨k, V, hk, rfl, rfl, hown, hwt, hbel⟩ := hrel
    have B := Lib.hid hbel
    have WT := Lib.hid hwt
    clear B1 WT1 hbel hwt
    obtain ⟨av, cv, rfl⟩ := own_shape hown
    have hll := Lk_len_le vals ws k
    by_cases hlt : k < m
    · cases a with
      | none => exact absurd (S1.out.2.1 rfl).1 (by omega)
      | some ad =>
      cases a2 with
      | none => exact absurd (S2.out.2.1 rfl).1 (by omega)
      | some ad2 =>
        have hc1 := (S1.out.below B.out).cellAt k (by rw [E1.out]; exact hlt)
        have hc2 := (S2.out.below B.out).cellAt k (by rw [E2.out]; exact hlt)
        have hx := HWS.out k hlt
        have hy := HV.out k hlt
        have na := nA_range ws k
        have va := vA_range vals ws k hy
        have vp := pow_le32 (nA ws k) na.2
        have NA := Lib.hid (show 1 + ws.getD k 0 % 32 = nA ws k from rfl)
        have VA := Lib.hid (show vals.getD k 0 / 2 ^ (32 - nA ws k).toNat = vA vals ws k from rfl)
        have HS := Lib.hid (wrStep_k vals ws k hy)
        have LS := Lib.hid (Lk_len_succ vals ws k)
        have VS := Lib.hid (vk_succ vals ws k)
        have hkk : (k : Int) < m := by omega
        generalize ws.getD k 0 = x at *
        generalize vals.getD k 0 = y at *
        generalize nA ws k = n at *
        generalize vA vals ws k = v at *
        have hvv : 0 ≤ v ∧ v < 4294967296 := by omega
        clear va vp
        go_wp2_with fail
        refine (width_any x _ hx).mono ?_
        rintro e w2 ⟨rfl, rfl⟩
        rw [NA.out]
        go_wp2_with fail
        rw [VA.out]
        refine (wr_any wr W.heap.size _ W.heap.size V _ v n WT.out B.out.size (by omega) hvv.1 hvv.2 0 _ HS.out).mono ?_
        rintro e w3 ⟨rfl, q3, V3, wt3⟩
        have B3 := Lib.hid (B.out.trans (q3.below B.out.size))
        have own3 := own_gt hown q3 (by decide) (by decide)
        have own4 := own3.alloc (.cells #[.int .u32 v] 22)
        have WT4 := Lib.hid (wt3.keep0 (gb_alloc w3 (.cells #[.int .u32 v] 22) none))
        clear q3 wt3 own3 hown hc1 hc2 B WT HS
        have HVL := Lib.hid (vk_len vals ws k)
        go_wp2_with (at_builtin; refine wpList_append_own _ rfl _ _ 76 rfl W.heap.size 22 i0 (.int .u32 0) 1 4 Try.underlying76 HI.out hz0 hz1 hz2 rfl (by decide) _ (vk vals ws k).length ((vk vals ws k).map (Value.int .u32)) rfl own4 ⟨w3.heap.size, 0, none⟩ 1 1 [.int .u32 v] rfl rfl ?c1 ?c2 ?c3 ?c4 ?c5 ?_)
        case c1 =>
          intro j u hj
          match j, hj with
          | 0, hj => simp at hj; subst hj; simp [Addr.add]
        case c2 => intro u hu; simp at hu; subst hu; rfl
        case c3 => have := HVL.out; unfold maxLen; omega
        case c4 => have := HVL.out; omega
        case c5 => have := B3.out.size; simp; omega
        intro v' w5 hown5 hgrow _
        have O5 := Lib.hid (show w5.ownsRow W.heap.size 22 1 v' (vk vals ws (k + 1)).length ((vk vals ws (k + 1)).map (Value.int .u32)) by rw [VS.out]; simpa using hown5)
        have B5 := Lib.hid (show Below W.heap.size W w5 from (B3.out.alloc B3.out.size _).grown hgrow (by have := B3.out.size; simp; omega) (by intro g hg; exact (own4.lt g hg).1))
        have WT5 := Lib.hid (WT4.out.other own4 hgrow)
        clear hown5 hgrow own4 B3 WT4 HVL
        go_wp2
        go_roundw
        case rel => exact ⟨k + 1, V3, by omega, by go_num, val_i (by have := LS.out; omega), O5.out, WT5.out, B5.out⟩
        case measure => simp [intOf]; omega
    · have EK := Lib.hid (show k = m by omega)
      have hkk : ¬ (k : Int) < m := by omega
      have O := Lib.hid hown
      clear hown
      by_cases hp : (Lk vals ws k).length % 8 = 0
      · have ip : ¬ (0 : Int) < (8 - ((Lk vals ws k).length : Int) % 8) % 8 := by omega
        go_wp2_with fail
        obtain ⟨P, hP⟩ : ∃ P : Nat, P = 0 := ⟨_, rfl⟩
        have EP : -(((Lk vals ws k).length : Int) % 8) % 8 = (P : Int) := by omega
        rw [EP]
        have HLF := Lib.hid (show (Lk vals ws k ++ []).length = (Lk vals ws k).length + P by simp [hP])
        have H8 := Lib.hid (show ((Lk vals ws k).length + P) % 8 = 0 by omega)
        have hP7 : P ≤ 7 := by omega
        have WTf := Lib.hid (show Wtr wr W.heap.size (W.heap.size + 1) W.heap.size V (Lk vals ws k ++ []) by rw [List.append_nil]; exact WT.out)
        have Bf := B
        have Of := O
        clear EP hP ip hp B O WT
        obtain ⟨F, hF⟩ : ∃ F, F = Lk vals ws k ++ [] := ⟨_, rfl⟩
        rw [← hF] at HLF WTf
        have HF := Lib.hid hF
        clear hF
        generalize wr = wf at *
        have HM := Lib.hid (bytes_even wf _ _ _ _ _ WTf.out (by rw [HLF.out]; omega) (by rw [HLF.out]; exact H8.out))
        refine HM.out.mono ?_
        rintro e w6 ⟨v6, rfl, g6, o6, _⟩
        obtain ⟨a6, c6, rfl⟩ := own_shape o6
        have Bg := Lib.hid (Bf.out.grown g6 Bf.out.size (by intro k hk; cases hk))
        have Og := Lib.hid (own_keep0 Of.out g6)
        have WTg := Lib.hid (WTf.out.keep0 g6)
        have HR := Lib.hid (newReader_any w6 _ _ _ _ (own_slr o6) (by rw [packB_len, HLF.out]; omega))
        clear g6 o6 HM Bf Of WTf
        go_wp2_with fail
        refine HR.out.mono ?_
        rintro e w7 ⟨r, s, V7, rfl, g7, rd7, _, lr, ls⟩
        have Bh := Lib.hid (Bg.out.grown g7 Bg.out.size (by intro k hk; cases hk))
        have Oh := Lib.hid (own_keep0 Og.out g7)
        have WTh := Lib.hid (WTg.out.keep0 g7)
        have RDh := Lib.hid rd7
        have LSh := Lib.hid (show W.heap.size ≤ s by have := Bg.out.size; omega)
        clear g7 rd7 lr ls HR Bg Og WTg
        go_wp2_with fail
        refine (len_any w7 _ _ _ _ _ WTh.out).mono ?_
        rintro e w8 ⟨rfl, rfl⟩
        have l1 : ((F.length : Int) != ((Lk vals ws k).length : Int) + (P : Int)) = false := by rw [HLF.out]; simp
        have l2 : (((packB F).length : Int) != (((Lk vals ws k).length : Int) + (P : Int)) / 8) = false := by
          rw [bne_eq_false_iff_eq, packB_len, HLF.out]
          have := H8.out
          omega
        have hvl := vk_len vals ws k
        have HVL := Lib.hid hvl
        clear hvl
        go_wp2_with fail
        clear l1 l2
        go_loopw [15] (fun i wr => ∃ j : Nat, j ≤ m ∧ i = .int .i64 j ∧ Rdr wr w6.heap.size r s V7 (packB F) (Lk vals ws j).length ∧ wr.ownsRow W.heap.size 22 1 (.slice av (vk vals ws k).length cv) (vk vals ws k).length ((vk vals ws k).map (Value.int .u32)) ∧ Below W.heap.size W wr) (fun i _ => m - (intOf i).toNat)
        case atStart => exact ⟨0, Nat.zero_le _, rfl, RDh.out, Oh.out, Bh.out⟩
        case round =>
          obtain ⟨j, hj, rfl, hrd, how, hbe⟩ := hrel
          have Bi := Lib.hid hbe
          have Oi := Lib.hid how
          have RDi := Lib.hid hrd
          clear hbe how hrd Bh Oh RDh WTh
          have hP := packB_range F
          have HPR := Lib.hid hP
          have HPL := Lib.hid (show (packB F).length * 8 = (Lk vals ws k).length + P by rw [packB_len, HLF.out]; have := H8.out; omega)
          have HJK := Lib.hid (show (Lk vals ws j).length ≤ (Lk vals ws k).length by obtain ⟨R, hR⟩ := Lk_mono vals ws j k (by rw [EK.out]; exact hj); rw [hR]; simp)
          clear hP
          by_cases hjt : j < m
          · cases a2 with
            | none => exact absurd (S2.out.2.1 rfl).1 (by omega)
            | some ad2 =>
            obtain ⟨gl, cl, hle⟩ := own_head Oi.out (by rw [HVL.out, EK.out]; omega)
            injection hle with hle1 _ hle2
            subst hle1; subst hle2
            have hc2 := (S2.out.below Bi.out).cellAt j (by rw [E2.out]; exact hjt)
            have hx := HWS.out j hjt
            have na := nA_range ws j
            have NA := Lib.hid (show 1 + ws.getD j 0 % 32 = nA ws j from rfl)
            have RB := Lib.hid (show accB (packB F) (Lk vals ws j).length (nA ws j).toNat = vA vals ws j by rw [HF.out]; exact read_back vals ws k j _ (by rw [EK.out]; exact hjt) (HV.out j hjt))
            have LS := Lib.hid (Lk_len_succ vals ws j)
            have HJ2 := Lib.hid (show (Lk vals ws (j + 1)).length ≤ (Lk vals ws k).length by obtain ⟨R, hR⟩ := Lk_mono vals ws (j + 1) k (by rw [EK.out]; exact hjt); rw [hR]; simp)
            have HG := Lib.hid (vk_get vals ws k j (by rw [EK.out]; exact hjt))
            have hjj : (j : Int) < (vk vals ws k).length := by rw [HVL.out, EK.out]; omega
            have hjm : (j : Int) < m := by omega
            generalize ws.getD j 0 = x at *
            generalize nA ws j = n at *
            have hrd0 := rd_good (packB F) (Lk vals ws j).length n na (by have := LS.out; have := HJ2.out; have := HPL.out; omega)
            rw [RB.out, ← LS.out] at hrd0
            have HM := Lib.hid (reads_any wr _ r s V7 _ _ n RDi.out HPR.out (by have := HPL.out; omega) (by have := HPL.out; have := HJK.out; omega) 0 _ _ hrd0)
            clear hrd0
            go_wp2_with fail
            refine (width_any x _ hx).mono ?_
            rintro e w2 ⟨rfl, rfl⟩
            rw [NA.out]
            go_wp2_with fail
            refine HM.out.mono ?_
            rintro e w9 ⟨rfl, g9, rd9⟩
            have RD9 := Lib.hid rd9
            have O9 := Lib.hid (own_keepS Oi.out g9 RDi.out.sb (by decide))
            have B9 := Lib.hid (Bi.out.grown g9 Bi.out.size (by intro k hk; injection hk with hk; rw [← hk]; exact LSh.out))
            have cl9 := own_cell O9.out j (by rw [HVL.out, EK.out]; exact hjt)
            rw [HG.out] at cl9
            clear g9 rd9 hc2 HM
            go_wp2
            go_roundw
            case rel => exact ⟨j + 1, by omega, by go_num, RD9.out, O9.out, B9.out⟩
            case measure => simp [intOf]; omega
          · have hjm : ¬ (j : Int) < (vk vals ws k).length := by rw [HVL.out, EK.out]; omega
            have EJ := Lib.hid (show j = k by rw [EK.out]; omega)
            have HM := Lib.hid (Remaining_any wr _ r s V7 _ _ RDi.out (by have := HPL.out; omega) (by have := HPL.out; have := HJK.out; omega))
            have fin : ((((packB F).length : Int) * 8 - ((Lk vals ws j).length : Int)) == (P : Int)) = true := by
              rw [EJ.out]
              have := HPL.out
              rw [beq_iff_eq]; omega
            go_wp2_with fail
            refine HM.out.mono ?_
            rintro e w9 ⟨rfl, g9, _⟩
            have B9 := Lib.hid (Bi.out.grown g9 Bi.out.size (by intro k hk; cases hk))
            clear g9 HM
            go_wp2_with fail
            refine (works_any _).mono ?_
            rintro e w10 ⟨rfl, b10⟩
            have BZ := Lib.hid (below_step B9.out B9.out.size b10)
            clear b10 fin
            go_wp2
            go_ret
            exact ⟨rfl, BZ.out⟩
      · have ip : (0 : Int) < (8 - ((Lk vals ws k).length : Int) % 8) % 8 := by omega
        go_wp2_with fail
        obtain ⟨P, hP⟩ : ∃ P : Nat, P = 8 - (Lk vals ws k).length % 8 := ⟨_, rfl⟩
        have EP : -(((Lk vals ws k).length : Int) % 8) % 8 = (P : Int) := by omega
        rw [EP]
        have HLF := Lib.hid (show (Lk vals ws k ++ bitsOf 0 P).length = (Lk vals ws k).length + P by rw [List.length_append, bitsOf_len])
        have H8 := Lib.hid (show ((Lk vals ws k).length + P) % 8 = 0 by omega)
        have hP7 : P ≤ 7 := by omega
        have hP1 : 1 ≤ P := by omega
        have ip2 : (0 : Int) < (P : Int) := by omega
        have hst := wrStep_pad (Lk vals ws k) (P : Int) (by omega)
        rw [Int.toNat_natCast] at hst
        have HST := Lib.hid hst
        clear EP hP ip hp hst
        refine (wr_any wr W.heap.size _ W.heap.size V _ 0 (P : Int) WT.out B.out.size (by omega) (by decide) (by decide) 0 _ HST.out).mono ?_
        rintro e wf ⟨rfl, qf, Vf, wtf⟩
        have WTf := Lib.hid wtf
        have Bf := Lib.hid (B.out.trans (qf.below B.out.size))
        have Of := Lib.hid (own_gt O.out qf (by decide) (by decide))
        clear qf wtf B O WT
        obtain ⟨F, hF⟩ : ∃ F, F = Lk vals ws k ++ bitsOf 0 P := ⟨_, rfl⟩
        rw [← hF] at HLF WTf
        have HF := Lib.hid hF
        clear hF
        go_wp2_with fail
        have HM := Lib.hid (bytes_even wf _ _ _ _ _ WTf.out (by rw [HLF.out]; omega) (by rw [HLF.out]; exact H8.out))
        refine HM.out.mono ?_
        rintro e w6 ⟨v6, rfl, g6, o6, _⟩
        obtain ⟨a6, c6, rfl⟩ := own_shape o6
        have Bg := Lib.hid (Bf.out.grown g6 Bf.out.size (by intro k hk; cases hk))
        have Og := Lib.hid (own_keep0 Of.out g6)
        have WTg := Lib.hid (WTf.out.keep0 g6)
        have HR := Lib.hid (newReader_any w6 _ _ _ _ (own_slr o6) (by rw [packB_len, HLF.out]; omega))
        clear g6 o6 HM Bf Of WTf
        go_wp2_with fail
        refine HR.out.mono ?_
        rintro e w7 ⟨r, s, V7, rfl, g7, rd7, _, lr, ls⟩
        have Bh := Lib.hid (Bg.out.grown g7 Bg.out.size (by intro k hk; cases hk))
        have Oh := Lib.hid (own_keep0 Og.out g7)
        have WTh := Lib.hid (WTg.out.keep0 g7)
        have RDh := Lib.hid rd7
        have LSh := Lib.hid (show W.heap.size ≤ s by have := Bg.out.size; omega)
        clear g7 rd7 lr ls HR Bg Og WTg
        go_wp2_with fail
        refine (len_any w7 _ _ _ _ _ WTh.out).mono ?_
        rintro e w8 ⟨rfl, rfl⟩
        have l1 : ((F.length : Int) != ((Lk vals ws k).length : Int) + (P : Int)) = false := by rw [HLF.out]; simp
        have l2 : (((packB F).length : Int) != (((Lk vals ws k).length : Int) + (P : Int)) / 8) = false := by
          rw [bne_eq_false_iff_eq, packB_len, HLF.out]
          have := H8.out
          omega
        have hvl := vk_len vals ws k
        have HVL := Lib.hid hvl
        clear hvl
        go_wp2_with fail
        clear l1 l2
        go_loopw [15] (fun i wr => ∃ j : Nat, j ≤ m ∧ i = .int .i64 j ∧ Rdr wr w6.heap.size r s V7 (packB F) (Lk vals ws j).length ∧ wr.ownsRow W.heap.size 22 1 (.slice av (vk vals ws k).length cv) (vk vals ws k).length ((vk vals ws k).map (Value.int .u32)) ∧ Below W.heap.size W wr) (fun i _ => m - (intOf i).toNat)
        case atStart => exact ⟨0, Nat.zero_le _, rfl, RDh.out, Oh.out, Bh.out⟩
        case round =>
          obtain ⟨j, hj, rfl, hrd, how, hbe⟩ := hrel
          have Bi := Lib.hid hbe
          have Oi := Lib.hid how
          have RDi := Lib.hid hrd
          clear hbe how hrd Bh Oh RDh WTh
          have hP := packB_range F
          have HPR := Lib.hid hP
          have HPL := Lib.hid (show (packB F).length * 8 = (Lk vals ws k).length + P by rw [packB_len, HLF.out]; have := H8.out; omega)
          have HJK := Lib.hid (show (Lk vals ws j).length ≤ (Lk vals ws k).length by obtain ⟨R, hR⟩ := Lk_mono vals ws j k (by rw [EK.out]; exact hj); rw [hR]; simp)
          clear hP
          by_cases hjt : j < m
          · cases a2 with
            | none => exact absurd (S2.out.2.1 rfl).1 (by omega)
            | some ad2 =>
            obtain ⟨gl, cl, hle⟩ := own_head Oi.out (by rw [HVL.out, EK.out]; omega)
            injection hle with hle1 _ hle2
            subst hle1; subst hle2
            have hc2 := (S2.out.below Bi.out).cellAt j (by rw [E2.out]; exact hjt)
            have hx := HWS.out j hjt
            have na := nA_range ws j
            have NA := Lib.hid (show 1 + ws.getD j 0 % 32 = nA ws j from rfl)
            have RB := Lib.hid (show accB (packB F) (Lk vals ws j).length (nA ws j).toNat = vA vals ws j by rw [HF.out]; exact read_back vals ws k j _ (by rw [EK.out]; exact hjt) (HV.out j hjt))
            have LS := Lib.hid (Lk_len_succ vals ws j)
            have HJ2 := Lib.hid (show (Lk vals ws (j + 1)).length ≤ (Lk vals ws k).length by obtain ⟨R, hR⟩ := Lk_mono vals ws (j + 1) k (by rw [EK.out]; exact hjt); rw [hR]; simp)
            have HG := Lib.hid (vk_get vals ws k j (by rw [EK.out]; exact hjt))
            have hjj : (j : Int) < (vk vals ws k).length := by rw [HVL.out, EK.out]; omega
            have hjm : (j : Int) < m := by omega
            generalize ws.getD j 0 = x at *
            generalize nA ws j = n at *
            have hrd0 := rd_good (packB F) (Lk vals ws j).length n na (by have := LS.out; have := HJ2.out; have := HPL.out; omega)
            rw [RB.out, ← LS.out] at hrd0
            have HM := Lib.hid (reads_any wr _ r s V7 _ _ n RDi.out HPR.out (by have := HPL.out; omega) (by have := HPL.out; have := HJK.out; omega) 0 _ _ hrd0)
            clear hrd0
            go_wp2_with fail
            refine (width_any x _ hx).mono ?_
            rintro e w2 ⟨rfl, rfl⟩
            rw [NA.out]
            go_wp2_with fail
            refine HM.out.mono ?_
            rintro e w9 ⟨rfl, g9, rd9⟩
            have RD9 := Lib.hid rd9
            have O9 := Lib.hid (own_keepS Oi.out g9 RDi.out.sb (by decide))
            have B9 := Lib.hid (Bi.out.grown g9 Bi.out.size (by intro k hk; injection hk with hk; rw [← hk]; exact LSh.out))
            have cl9 := own_cell O9.out j (by rw [HVL.out, EK.out]; exact hjt)
            rw [HG.out] at cl9
            clear g9 rd9 hc2 HM
            go_wp2
            go_roundw
            case rel => exact ⟨j + 1, by omega, by go_num, RD9.out, O9.out, B9.out⟩
            case measure => simp [intOf]; omega
          · have hjm : ¬ (j : Int) < (vk vals ws k).length := by rw [HVL.out, EK.out]; omega
            have EJ := Lib.hid (show j = k by rw [EK.out]; omega)
            have HM := Lib.hid (Remaining_any wr _ r s V7 _ _ RDi.out (by have := HPL.out; omega) (by have := HPL.out; have := HJK.out; omega))
            have fin : ((((packB F).length : Int) * 8 - ((Lk vals ws j).length : Int)) == (P : Int)) = true := by
              rw [EJ.out]
              have := HPL.out
              rw [beq_iff_eq]; omega
            go_wp2_with fail
            refine HM.out.mono ?_
            rintro e w9 ⟨rfl, g9, _⟩
            have B9 := Lib.hid (Bi.out.grown g9 Bi.out.size (by intro k hk; cases hk))
            clear g9 HM
            go_wp2_with fail
            refine (works_any _).mono ?_
            rintro e w10 ⟨rfl, b10⟩
            have BZ := Lib.hid (below_step B9.out B9.out.size b10)
            clear b10 fin
            go_wp2
            go_ret
            exact ⟨rfl, BZ.out⟩

theorem u32_bd2 {a : Int} (h : (Lit.int .u32 a).wf = true) : 0 ≤ a ∧ a < 4294967296 := by
  have := bounds_u32 h
  omega
theorem round_walk (a : Option Addr) (len cap : Nat) (z : List Int) (a2 : Option Addr) (len2 cap2 : Nat) (z2 : List Int) (W : World) (h : IsRow .u32 W a len cap z) (h2 : IsRow .u8 W a2 len2 cap2 z2) :
    Calls Try.prog 11 #[.slice a len cap, .slice a2 len2 cap2] W fun e w' => e = .returned (.bool true) ∧ Below W.heap.size W w' := by
  by_cases hs : 60 < len ∨ len2 ≠ len
  · exact round_off a len cap a2 len2 cap2 W hs
  · obtain rfl : len2 = len := by omega
    exact round_on a cap (z.take len2) a2 cap2 (z2.take len2) len2 W (row_slr h) (row_slr h2) (fun x hx => u32_bd2 (row_wf h x hx)) (fun x hx => u8_bd (row_wf h2 x hx)) (by omega)
end Go.Proofs.Ytiphcknnljjanaa
