/- The law Iterates. -/
import Derived.Test.YtmldoeigemippaaPqS
namespace Go.Proofs.Ytmldoeigemippaa
open Go.RowKit
set_option linter.unusedVariables false

theorem upd_id (p : Int) : upd (fun t => t) p p = fun t => t := by funext t; unfold upd; split <;> simp_all
/-- The codes of the first i keys. -/
def cU (zs : List Int) (i : Nat) : List Int := (List.range i).map fun j => codeOf (zs.getD j 0) j
theorem cU_len (zs : List Int) (i : Nat) : (cU zs i).length = i := by simp [cU]
theorem cU_succ (zs : List Int) (i : Nat) : cU zs (i + 1) = cU zs i ++ [codeOf (zs.getD i 0) i] := by simp [cU, List.range_succ]
theorem allT_len (f : Nat) : ∀ T : List Int, T.length ≤ f → (allT f T).length = T.length := by
  induction f with
  | zero => intro T h; simp at h; subst h; rfl
  | succ f ih =>
    intro T h
    unfold allT
    by_cases e : T.length = 0
    · rw [if_pos e]; simp [e]
    · rw [if_neg e, List.length_cons, ih _ (by rw [popT_len T (by omega)]; omega), popT_len T (by omega)]; omega
theorem DQ.srt {W : World} {q s : Nat} {cap : Int} {E : Int → Int} {p : Int} {T : List Int} {w : World} (h : DQ W q s cap E p T w) : Srt T := by
  obtain ⟨V, H, _, h2⟩ := h.ex
  exact h2.srt
theorem dq_push_id {W w : World} {q s : Nat} {cap : Int} {p : Nat} {T : List Int} (h : DQ W q s cap (fun t => t) p T w) (key : Int) (hf : (T.length : Int) < cap) (hn : T.length ≤ 99999) (hp : p < 100000000) :
    Calls Try.prog 11 #[.pointer (some ⟨q, 0, none⟩), .int .i64 key, .int .i64 p] w fun e w' => e = .returned (.int .i64 0) ∧ DQ W q s cap (fun t => t) ((p + 1 : Nat) : Int) (T ++ [codeOf key p]) w' := by
  refine (dq_push h key p hf hn (by omega)).mono ?_
  rintro e w' ⟨rfl, D, _, _⟩
  rw [upd_id] at D
  exact ⟨rfl, D⟩
theorem key_le {x y : Int} (h : x ≤ y) : kC x ≤ kC y := by unfold kC; omega
theorem sorted_at (S : List Int) (h : S.Pairwise (· ≤ ·)) (i : Nat) (h1 : i + 1 < S.length) : ¬ kC (S.getD (i + 1) 0) < kC (S.getD i 0) := by
  have k := List.pairwise_iff_getElem.1 h i (i + 1) (by omega) h1 (by omega)
  have := key_le k
  rw [show S.getD (i + 1) 0 = S[i + 1] by simp [h1], show S.getD i 0 = S[i] by simp [show i < S.length by omega]]
  omega
/-- What list returns, written out. -/
def RetIn (E : Int → Int) (Z : List Int) (n : Nat) (w : World) (e : Ending) (w' : World) : Prop := ∃ a c, e = .returned (.tuple #[.slice a n c, .bool true]) ∧ RL w' w.heap.size (.slice a n c) E Z ∧ w.grownBy w' none
theorem RetI.n {E : Int → Int} {Z : List Int} {n : Nat} {w : World} {e : Ending} {w' : World} (h : RetI E Z w e w') (hn : Z.length = n) : RetIn E Z n w e w' := by
  obtain ⟨V, rfl, r, g⟩ := h
  obtain ⟨a, c, rfl⟩ := r.shape
  subst hn
  exact ⟨a, c, rfl, r, g⟩
set_option maxRecDepth 100000 in
set_option maxHeartbeats 1000000 in
theorem iterates_walk (a0 : Option Addr) (len0 cap0 : Nat) (z0 : List Int) (a1 : Int) (W : World) (w0 : IsRow .i64 W a0 len0 cap0 z0) (w1 : (Lit.int .i64 a1).wf = true) : Calls Try.prog 5 #[.slice a0 len0 cap0, .int .i64 a1] W (RetV (.bool true) W) := by
  by_cases h3 : (300 : Int) < len0
  · clear w0 w1
    go_enter Try.func5, Try.ntmps5
    go_wp2_with (go_at_call 7; refine (awake_any _).mono ?_; rintro e w8 ⟨rfl, g8⟩)
    go_ret
    exact ⟨rfl, g8⟩
  have hl := row_len w0
  have hs := row_slr w0
  obtain ⟨zs, hz⟩ : ∃ zs, zs = z0.take len0 := ⟨_, rfl⟩
  rw [← hz] at hl hs
  obtain ⟨n, hn⟩ : ∃ n, n = len0 := ⟨_, rfl⟩
  rw [← hn] at hl hs h3 ⊢
  have HS := Lib.hid hs
  have HL := Lib.hid hl
  have hw1 : IntKind.i64.wrap ((n : Int) + 1) = (n : Int) + 1 := by rw [IntKind.wrap_i64]; omega
  clear w0 w1 hz hn hl hs
  have D0 := DQ.new W W (fun t => t) ((n : Int) + 1) (gb_refl _ _)
  have NB : (n : Int) ≤ 300 := by omega
  obtain ⟨S, hS⟩ : ∃ S, S = allT n (cU zs n) := ⟨_, rfl⟩
  have SL := Lib.hid (show S.length = n by rw [hS, allT_len n _ (by rw [cU_len]; exact Nat.le_refl _), cU_len])
  obtain ⟨m, hm⟩ : ∃ m : Nat, (m : Int) = max 0 (min a1 (n : Int)) := ⟨(max 0 (min a1 (n : Int))).toNat, by omega⟩
  have hmn : m ≤ n := by omega
  have HS2 := Lib.hid hS
  go_enter Try.func5, Try.ntmps5
  go_upto_region 4 with (go_at_call 8; refine (new_good _ ((n : Int) + 1) (by omega) (by omega)).mono ?_; rintro e w1 ⟨rfl, rfl⟩)
  generalize (W.alloc (.cells #[.int .i64 ((n : Int) + 1), .int .u64 0, .slice none 0 0] 62)).alloc (.cells #[.pointer (some ⟨W.heap.size, 0, none⟩)] 56) = w1 at *
  obtain ⟨q, hq⟩ : ∃ q, q = W.heap.size + 1 := ⟨_, rfl⟩
  obtain ⟨s, hs⟩ : ∃ s, s = W.heap.size := ⟨_, rfl⟩
  rw [← hq, ← hs] at D0
  rw [← hq]
  have D1 := Lib.hid D0
  clear D0 hq hs hS
  go_wp2
  go_loopw [7] (fun i wr => ∃ j : Nat, j ≤ n ∧ i = .int .i64 j ∧ DQ W q s ((n : Int) + 1) (fun t => t) j (cU zs j) wr) (fun i _ => n - (intOf i).toNat)
  case atStart => exact ⟨0, Nat.zero_le _, rfl, D1.out⟩
  case round =>
    obtain ⟨j, hj, rfl, hd⟩ := hrel
    have HD := Lib.hid hd
    clear hd D1
    by_cases hlt : j < n
    · obtain ⟨ad, rfl⟩ : ∃ ad, a0 = some ad := by
        cases a0 with
        | none => have := (HS.out.2.1 rfl).1; omega
        | some ad => exact ⟨ad, rfl⟩
      have i1 : (j : Int) < n := by omega
      have i0 : (0 : Int) ≤ (j : Int) := by omega
      have c0 := (HS.out.keep0 HD.out.grown).cellAt j (by rw [HL.out]; exact hlt)
      have hw : IntKind.i64.wrap ((j : Int) + 1) = ((j + 1 : Nat) : Int) := by rw [IntKind.wrap_i64]; omega
      have PU := Lib.hid (dq_push_id HD.out (zs.getD j 0) (by rw [cU_len]; omega) (by rw [cU_len]; omega) (by omega))
      rw [← cU_succ] at PU
      generalize zs.getD j 0 = x at *
      go_wp2_with (go_at_call 11; refine PU.out.mono ?_; clear PU; rintro e w3 ⟨rfl, D3⟩)
      go_roundw
      case rel => exact ⟨j + 1, by omega, by first | rfl | (congr 1), D3⟩
      case measure => simp [intOf]; omega
    · have i1 : ¬ (j : Int) < n := by omega
      obtain rfl : j = n := by omega
      have LI := Lib.hid (fun (m2 : Nat) (r : Nat) (hr : min m2 j = r) (hm2 : m2 ≤ 100000) (w : World) (g : wr.grownBy w none) => (dq_list (HD.out.keep0 g) (by rw [cU_len]; omega) m2 hm2).mono fun _ _ q => RetI.n (n := r) q (by rw [cU_len, ← HS2.out, List.length_take, SL.out]; exact hr))
      rw [cU_len, ← HS2.out] at LI
      have TA := Lib.hid (show S.take (j + 1) = S from List.take_of_length_le (by rw [SL.out]; omega))
      have LE := Lib.hid (fun (w : World) (g : wr.grownBy w none) => dq_len (HD.out.keep0 g))
      rw [cU_len] at LE
      have SO := Lib.hid (show S.Pairwise (· ≤ ·) by rw [HS2.out]; exact allT_sorted _ _ HD.out.srt)
      have G0 := Lib.hid HD.out.grown
      have LI2 := Lib.hid (LI.out (j + 1) j (by omega) (by omega))
      rw [TA.out, show ((j + 1 : Nat) : Int) = (j : Int) + 1 by omega] at LI2
      have LI1 := Lib.hid (fun (v : Int) (hv : v = (m : Int)) => (show ∀ (w : World), wr.grownBy w none → Calls Try.prog 16 #[.pointer (some ⟨q, 0, none⟩), .int .i64 v] w (RetIn (fun t => t) (S.take m) m w) by rw [hv]; exact LI.out m m (by omega) (by omega)))
      have SF := Lib.hid (show ∀ i, i + 1 < j → ¬ kC (S.getD (i + 1) 0) < kC (S.getD i 0) from fun i h => sorted_at S SO.out i (by rw [SL.out]; exact h))
      have hcs : ((j : Int) < a1 ∧ (j : Int) ≤ 0 ∧ m = 0) ∨ ((j : Int) < a1 ∧ ¬ (j : Int) ≤ 0 ∧ m = j) ∨ (¬ (j : Int) < a1 ∧ a1 ≤ 0 ∧ m = 0) ∨ (¬ (j : Int) < a1 ∧ ¬ a1 ≤ 0 ∧ a1 = m) := by omega
      clear LI HD hm
      have LI3 : ∃ v : Int, ((m : Int) != v) = false ∧ v = (m : Int) ∧ ((v = 0 ∧ (j : Int) < a1 ∧ (j : Int) ≤ 0) ∨ (v = j ∧ (j : Int) < a1 ∧ ¬ (j : Int) ≤ 0) ∨ (v = 0 ∧ ¬ (j : Int) < a1 ∧ a1 ≤ 0) ∨ (v = a1 ∧ ¬ (j : Int) < a1 ∧ ¬ a1 ≤ 0)) := ⟨m, by simp, rfl, by omega⟩
      obtain ⟨v, dm, hv, hvs⟩ := LI3
      have L1 := Lib.hid (LI1.out v hv)
      have HM := Lib.hid hmn
      have dj : ((j : Int) != (j : Int)) = false := by simp
      clear LI1 hcs hv hmn
      have AA := Lib.hid (show ∀ w, Calls Try.prog 7 #[] w (RetV (.bool true) w) from awake_any)
      rcases hvs with ⟨rfl, hA, hB⟩ | ⟨rfl, hA, hB⟩ | ⟨rfl, hA, hB⟩ | ⟨rfl, hA, hB⟩
      all_goals (
        go_upto_region 12 with (go_at_call 16; refine (L1.out wr (gb_refl _ _)).mono ?_; rintro e w2 ⟨a2, c2, rfl, r2, g2⟩; have R2 := Lib.hid r2; have G2 := Lib.hid g2; clear r2 g2)
        go_upto_region 13 with (go_at_call 16; refine (LI2.out w2 G2.out).mono ?_; rintro e w3 ⟨a3, c3, rfl, r3, g3⟩; have R3 := Lib.hid r3; have R2 := Lib.hid (R2.out.keep0 g3); have G3 := Lib.hid (gb_trans G2.out g3); clear r3 g3)
        go_upto_region 14 with (go_at_call 16; refine (LI2.out w3 G3.out).mono ?_; rintro e w4 ⟨a4, c4, rfl, r4, g4⟩; have R4 := Lib.hid r4; have R2 := Lib.hid (R2.out.keep0 g4); have R3 := Lib.hid (R3.out.keep0 g4); have G4 := Lib.hid (gb_trans G3.out g4); clear r4 g4)
        have E3 := Lib.hid (fun (w : World) (g : w4.grownBy w none) => equal_any w a3 a4 _ c3 c4 _ _ _ _ ((R3.out.keep0 g).sr SL.out.symm) ((R4.out.keep0 g).sr SL.out.symm) rfl (by omega))
        have E4 := Lib.hid (fun (w : World) (g : w4.grownBy w none) => equal_any w a2 a3 m c2 c3 _ _ _ _ ((R2.out.keep0 g).sr (by rw [List.length_take, SL.out]; have := HM.out; omega)) (((R3.out.keep0 g).sr SL.out.symm).pre m HM.out) rfl (by have := HM.out; omega))
        have C3 : m ≤ c3 := by
          have h := R3.out
          unfold RL at h
          rw [SL.out] at h
          have := own_cap h
          have := HM.out
          omega
        have hl4 := Lib.hid (LE.out w4 G4.out)
        go_wp2_with (first
          | (go_at_call 19; refine hl4.out.mono ?_; clear hl4; rintro e w5 ⟨rfl, rfl⟩)
          | (go_at_call_of 17 (Value.slice a4 j c4); refine (E3.out _ (gb_refl _ _)).mono ?_; rintro e w6 ⟨rfl, g6⟩; have G6 := Lib.hid g6; clear g6)
          | (go_at_call_of 17 (Value.slice a2 m c2); refine (E4.out _ G6.out).mono ?_; rintro e w7 ⟨rfl, g7⟩; have G7 := Lib.hid (gb_trans G6.out g7); clear g7))
        have G9 := Lib.hid (gb_trans G0.out (gb_trans G4.out G7.out))
        have RS := Lib.hid (fun (w : World) (g : w7.grownBy w none) => ((R3.out.keep0 (gb_trans G7.out g)).sr SL.out.symm))
        clear hA hB dm C3 G6 E3 E4 R2 R4
        go_loopw [14] (fun i wr => ∃ k : Nat, 1 ≤ k ∧ i = .int .i64 k ∧ w7.grownBy wr none) (fun i _ => j - (intOf i).toNat)
        case atStart => exact ⟨1, Nat.le_refl _, rfl, gb_refl _ _⟩
        case round =>
          obtain ⟨k, hk, rfl, hg⟩ := hrel
          have HG := Lib.hid hg
          clear hg
          by_cases hlt : k < j
          · obtain ⟨ad, rfl⟩ := (RS.out _ HG.out).some_ (by omega)
            obtain ⟨k0, rfl⟩ : ∃ k0, k = k0 + 1 := ⟨k - 1, by omega⟩
            have i1 : ((k0 + 1 : Nat) : Int) < j := by omega
            have i0 : (0 : Int) ≤ ((k0 + 1 : Nat) : Int) := by omega
            have i2 : (k0 : Int) < j := by omega
            have i3 : (0 : Int) ≤ (k0 : Int) := by omega
            obtain ⟨c1, -⟩ := (RS.out _ HG.out).at_ (k0 + 1) hlt
            obtain ⟨c2, -⟩ := (RS.out _ HG.out).at_ k0 (by omega)
            have lt := SF.out k0 hlt
            have hw : IntKind.i64.wrap (((k0 + 1 : Nat) : Int) + 1) = ((k0 + 1 + 1 : Nat) : Int) := by rw [IntKind.wrap_i64]; omega
            have hw2 : IntKind.i64.wrap (((k0 + 1 : Nat) : Int) - 1) = (k0 : Int) := by rw [IntKind.wrap_i64]; omega
            generalize kC (S.getD (k0 + 1) 0) = x at *
            generalize kC (S.getD k0 0) = y at *
            go_upto_region 19 with fail
            go_quiet (fail)
            go_wp2
            go_roundw
            case rel => exact ⟨k0 + 1 + 1, by omega, by first | rfl | (congr 1), gb_trans HG.out (by first | exact gb_drewN _ _ _ | exact gb_refl _ _)⟩
            case measure => simp [intOf]; omega
          · have i1 : ¬ (k : Int) < j := by omega
            go_wp2_with (go_at_call 7; refine (AA.out _).mono ?_; rintro e w8 ⟨rfl, g8⟩)
            go_ret
            exact ⟨rfl, gb_trans G9.out (gb_trans HG.out g8)⟩)
end Go.Proofs.Ytmldoeigemippaa
