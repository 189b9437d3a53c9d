/- Numbers parsed: the walks of ParseInt and ParseUint32; no condition but sizes and the bytes' range. -/
import Derived.Test.YtmbdpiffdiiggaaNtD
namespace Go.Proofs.Ytmbdpiffdiiggaa
open Go.RowKit
set_option linter.unusedVariables false

def signed (neg : Bool) (v : Int) : Int := if neg then -v else v
def prIn (neg : Bool) (T L : List Int) : Int × Bool := if (toE 10 9 T).2 = true ∧ fmtI (signed neg (toE 10 9 T).1) = L then (signed neg (toE 10 9 T).1, true) else (0, false)
def prI (L : List Int) : Int × Bool := if L.take 1 = [45] then prIn true (L.drop 1) L else prIn false L L
theorem toE_range (base : Int) (hb : base = 10 ∨ base = 16) (lim : Nat) (hl : lim ≤ 10) (T : List Int) : 0 ≤ (toE base lim T).1 ∧ (toE base lim T).1 < 1099511627776 := by
  unfold toE
  split
  · rename_i h; exact valF_range base hb T (by omega) h.2.2
  · exact ⟨Int.le_refl _, by decide⟩
theorem fmtI_range (n : Int) : ∀ x ∈ fmtI n, 0 ≤ x ∧ x ≤ 255 := by
  intro x hx
  rw [fmtI_def] at hx
  split at hx
  · rcases List.mem_cons.1 hx with h | h
    · omega
    · exact dec_range (-n) (by omega) x h
  · exact dec_range n (by omega) x hx
theorem not_str_ne {L M : List Int} (hl : ∀ x ∈ L, 0 ≤ x ∧ x ≤ 255) (hm : ∀ x ∈ M, 0 ≤ x ∧ x ≤ 255) (h : ¬ L = M) : (!((strOf L).toList == (strOf M).toList)) = true := by rw [strOf_ne hl hm h]; rfl
theorem not_str_eq {L M : List Int} (h : L = M) : (!((strOf L).toList == (strOf M).toList)) = false := by rw [strOf_eq h]; rfl

theorem toE_ok {base : Int} {lim : Nat} {T : List Int} (h : (toE base lim T).2 = false) : (toE base lim T).1 = 0 := by
  unfold toE at h ⊢
  split
  · rename_i k; rw [if_pos k] at h; cases h
  · rfl
def prUd (L : List Int) : Int × Bool := if (toE 10 10 L).2 = true ∧ dec ((toE 10 10 L).1 % 4294967296) = L then ((toE 10 10 L).1 % 4294967296, true) else (0, false)
def prU (L : List Int) : Int × Bool := if 2 ≤ L.length ∧ L.take 2 = [48, 120] then ((toE 16 8 (L.drop 2)).1 % 4294967296, (toE 16 8 (L.drop 2)).2) else prUd L
theorem parseU_any (w : World) (L : List Int) (hl : L.length ≤ 1000000) (hL : ∀ x ∈ L, 0 ≤ x ∧ x ≤ 255) :
    Calls Try.prog 82 #[.string (strOf L)] w (RetQ (.tuple #[.int .u32 (prU L).1, .bool (prU L).2]) w none fun _ => True) := by
  have HL := Lib.hid hL
  clear hL
  by_cases hx : 2 ≤ L.length ∧ L.take 2 = [48, 120]
  · have HR := Lib.hid (show prU L = ((toE 16 8 (L.drop 2)).1 % 4294967296, (toE 16 8 (L.drop 2)).2) by unfold prU; rw [if_pos hx])
    have HX := Lib.hid hx
    clear hx
    go_enter Try.func82, Try.ntmps82
    go_wp2_with fail
    have B0 := Lib.hid (IsB.new w 95 #[.string (strOf L), .int .i64 0, .int .u64 16])
    have G0 := Lib.hid (gb_alloc w (.cells #[.string (strOf L), .int .i64 0, .int .u64 16] 95) none)
    generalize w.alloc (.cells #[.string (strOf L), .int .i64 0, .int .u64 16] 95) = w1 at *
    refine (skip_yes w1 w.heap.size _ _ L [48, 120] 0 _ ⟨B0.out, rfl, rfl, Nat.zero_le _⟩ hl rfl HX.out.1 HX.out.2).mono ?_
    rintro e w2 ⟨rfl, g2, q2⟩
    have B2 := Lib.hid (show IsB w2 w.heap.size 95 #[.string (strOf L), .int .i64 ((2 : Nat) : Int), .int .u64 16] from q2.blk)
    have G2 := Lib.hid (gb_new (gb_trans (gb_any G0.out) g2) (Nat.le_refl _))
    have H3 := Lib.hid (toEnd_any w2 w.heap.size L 2 16 8 (Or.inr rfl) B2.out HX.out.1 hl HL.out (by decide))
    clear g2 q2
    go_wp2_with fail
    refine H3.out.mono ?_
    rintro e w3 ⟨rfl, g3⟩
    have G3 := Lib.hid (gb_new (gb_trans (gb_any G2.out) g3) (Nat.le_refl _))
    have hr := toE_range 16 (Or.inr rfl) 8 (by decide) (L.drop 2)
    obtain ⟨v, ok, hvo⟩ : ∃ v ok, toE 16 8 (L.drop 2) = (v, ok) := ⟨_, _, rfl⟩
    have HVO := Lib.hid hvo
    rw [hvo] at hr ⊢
    clear g3 H3 hvo B2
    go_wp2
    go_ret2
    refine ⟨?_, G3.out, trivial⟩
    rw [HR.out, HVO.out]
    rfl
  · have HR := Lib.hid (show prU L = prUd L by unfold prU; rw [if_neg hx])
    have HX := Lib.hid hx
    clear hx
    have hr := toE_range 10 (Or.inl rfl) 10 (by decide) L
    obtain ⟨v, ok, hvo⟩ : ∃ v ok, toE 10 10 L = (v, ok) := ⟨_, _, rfl⟩
    have HVO := Lib.hid hvo
    rw [hvo] at hr
    clear hvo
    go_enter Try.func82, Try.ntmps82
    go_wp2_with fail
    have B0 := Lib.hid (IsB.new w 95 #[.string (strOf L), .int .i64 0, .int .u64 16])
    have G0 := Lib.hid (gb_alloc w (.cells #[.string (strOf L), .int .i64 0, .int .u64 16] 95) none)
    generalize w.alloc (.cells #[.string (strOf L), .int .i64 0, .int .u64 16] 95) = w1 at *
    refine (skip_no w1 w.heap.size _ _ L [48, 120] 0 _ ⟨B0.out, rfl, rfl, Nat.zero_le _⟩ hl HL.out (by decide) rfl HX.out).mono ?_
    rintro e w2 ⟨rfl, g2, _⟩
    have B2 := Lib.hid (B0.out.keep0 g2)
    have G2 := Lib.hid (gb_trans G0.out g2)
    have c2 : w2.cell? ⟨w.heap.size, 2, none⟩ = some (.int .u64 16) := B2.out.cell 2
    have f2 := B2.out.free 2
    have B3 := Lib.hid (show IsB (w2.setCell ⟨w.heap.size, 2, none⟩ (.int .u64 10)) w.heap.size 95 #[.string (strOf L), .int .i64 ((0 : Nat) : Int), .int .u64 10] from B2.out.set 2 (.int .u64 10))
    have G3 := Lib.hid (gb_new (gb_trans (gb_any G2.out) (gb_set w2 w.heap.size 2 (.int .u64 10))) (Nat.le_refl _))
    have H3 := Lib.hid (toEnd_any (w2.setCell ⟨w.heap.size, 2, none⟩ (.int .u64 10)) w.heap.size L 0 10 10 (Or.inl rfl) B3.out (Nat.zero_le _) hl HL.out (by decide))
    rw [List.drop_zero, HVO.out] at H3
    clear g2 B2 G2 G0 B0 B3
    go_wp2_with fail
    generalize w2.setCell ⟨w.heap.size, 2, none⟩ (.int .u64 10) = w3 at *
    refine H3.out.mono ?_
    rintro e w4 ⟨rfl, g4⟩
    have G4 := Lib.hid (gb_new (gb_trans (gb_any G3.out) g4) (Nat.le_refl _))
    clear g4 H3 G3 c2 f2
    cases ok with
    | false =>
      go_wp2
      go_ret2
      refine ⟨?_, G4.out, trivial⟩
      rw [HR.out]
      unfold prUd
      rw [HVO.out, if_neg (by simp)]
      rfl
    | true =>
      go_wp2_with fail
      refine (fmtU_any w4 (v % 4294967296) (by omega) (by omega)).mono ?_
      rintro e w5 ⟨rfl, g5, _⟩
      have G5 := Lib.hid (gb_trans G4.out g5)
      clear g5
      by_cases he : dec (v % 4294967296) = L
      · have q := not_str_eq he
        have q1 := strOf_eq he
        have HE := Lib.hid he
        clear he
        go_wp2
        go_ret2
        refine ⟨?_, G5.out, trivial⟩
        rw [HR.out]
        unfold prUd
        rw [HVO.out, if_pos ⟨rfl, HE.out⟩]
        rfl
      · have q := not_str_ne (dec_range _ (by omega)) HL.out he
        have q1 := strOf_ne (dec_range _ (by omega)) HL.out he
        have HE := Lib.hid he
        clear he
        go_wp2
        go_ret2
        refine ⟨?_, G5.out, trivial⟩
        rw [HR.out]
        unfold prUd
        rw [HVO.out, if_neg (fun hh => HE.out hh.2)]
        rfl
end Go.Proofs.Ytmbdpiffdiiggaa
