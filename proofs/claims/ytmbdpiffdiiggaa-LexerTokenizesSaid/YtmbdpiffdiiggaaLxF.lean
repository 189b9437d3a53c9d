/- The first token of a text: the walks of symbolToken and firstToken; no condition but sizes and the bytes' range. -/
import Derived.Test.YtmbdpiffdiiggaaLxE
namespace Go.Proofs.Ytmbdpiffdiiggaa
open Go.RowKit
set_option linter.unusedVariables false

def symT (T : List Int) : Tk := if T = [] then noTk 5 else ⟨3, T, 0, 0⟩
def firstT (L : List Int) : Tk :=
  if isL (L.getD 0 0) = true then nameT (L.take (spanK isW L)) else if isD (L.getD 0 0) = true then numT (L.take (spanK isA L)) else symT (L.take (symK L))
theorem empty_list : (ByteArray.mk #[]).toList = [] := ByteArray.toList_mk []
/-- The cells of a token's variable. -/
theorem tok_cells {w : World} {g : Nat} {t : TypeId} {k v l : Int} {s : ByteArray} (h : IsB w g t #[.int .i64 k, .string s, .int .u32 v, .int .i64 l]) :
    w.cell? ⟨g, 0, none⟩ = some (.int .i64 k) ∧ w.cell? ⟨g, 1, none⟩ = some (.string s) ∧ w.cell? ⟨g, 2, none⟩ = some (.int .u32 v) ∧ w.cell? ⟨g, 3, none⟩ = some (.int .i64 l) ∧
    w.frozen? ⟨g, 0, none⟩ = false ∧ w.frozen? ⟨g, 1, none⟩ = false ∧ w.frozen? ⟨g, 2, none⟩ = false ∧ w.frozen? ⟨g, 3, none⟩ = false :=
  ⟨h.cell 0, h.cell 1, h.cell 2, h.cell 3, h.free 0, h.free 1, h.free 2, h.free 3⟩

set_option maxRecDepth 100000 in
theorem symbolToken_any (w : World) (T : List Int) (hT : ∀ x ∈ T, 0 ≤ x ∧ x ≤ 255) (hl : T.length ≤ 1000000) :
    Calls Try.prog 68 #[.string (strOf T)] w (RetQ (symT T).v w none fun _ => True) := by
  have B1 := Lib.hid (IsB.new w 34 #[.int .i64 0, .string { data := #[] }, .int .u32 0, .int .i64 0])
  have G1 := Lib.hid (gb_alloc w (.cells #[.int .i64 0, .string { data := #[] }, .int .u32 0, .int .i64 0] 34) none)
  cases T with
  | nil =>
    have HE := Lib.hid (show symT [] = noTk 5 from if_pos rfl)
    rw [show strOf [] = ⟨#[]⟩ from rfl]
    have q1 := empty_list
    go_enter Try.func68, Try.ntmps68
    go_wp2
    (try simp only [Exit.inBlock, Exit.then])
    refine bodyPost_ret (v := .tuple #[.agg #[.int .i64 0, .string { data := #[] }, .int .u32 0, .int .i64 0], .int .i64 5]) (by rw [results_cell_tmp rfl]; go_simp) rfl ⟨?_, ?_, trivial⟩
    · rw [HE.out]; rfl
    · repeat refine gb_put ?_ (Nat.le_refl _)
      exact G1.out
  | cons x T =>
    have HE := Lib.hid (show symT (x :: T) = ⟨3, x :: T, 0, 0⟩ from if_neg (by simp))
    have n1 := strOf_full x T
    have HN := Lib.hid (fun w => newToken_any w 3 (x :: T) 0 hT)
    obtain ⟨r, hr⟩ : ∃ r, r = strOf (x :: T) := ⟨_, rfl⟩
    rw [← hr] at n1 HN ⊢
    have n2 : (r.toList == ([] : List UInt8)) = false := by rw [beq_eq_false_iff_ne]; exact n1
    have n3 : r.toList.isEmpty = false := by rw [List.isEmpty_eq_false_iff]; exact n1
    have HRr := Lib.hid hr
    clear hT hr
    go_enter Try.func68, Try.ntmps68
    go_wp2_with fail
    refine (HN.out _).mono ?_
    rintro e w2 ⟨rfl, g2, _⟩
    have B2 := B1.out.keep0 g2
    have G2 := Lib.hid (gb_trans G1.out g2)
    obtain ⟨c0, c1, c2, c3, f0, f1, f2, f3⟩ := tok_cells B2
    clear g2 G1 B1 B2
    go_wp2
    (try simp only [Exit.inBlock, Exit.then])
    refine bodyPost_ret (v := .tuple #[.agg #[.int .i64 3, .string r, .int .u32 0, .int .i64 0], .int .i64 0]) (by rw [results_cell_tmp rfl]; go_simp) rfl ⟨?_, ?_, trivial⟩
    · rw [HE.out, HRr.out]; rfl
    · repeat refine gb_put ?_ (Nat.le_refl _)
      exact G2.out

theorem symK_le (L : List Int) (h1 : 1 ≤ L.length) : symK L ≤ L.length := by
  unfold symK; split
  · omega
  · split <;> omega
theorem take_range {L : List Int} (hL : ∀ x ∈ L, 0 ≤ x ∧ x ≤ 255) (k : Nat) : ∀ x ∈ L.take k, 0 ≤ x ∧ x ≤ 255 := fun x h => hL x (List.mem_of_mem_take h)
theorem spanK_pos {p : Int → Bool} {L : List Int} (h1 : 1 ≤ L.length) (hp : p (L.getD 0 0) = true) : 1 ≤ spanK p L := by
  cases L with
  | nil => simp at h1
  | cons x t =>
    have e : p x = true := by simpa using hp
    unfold spanK; rw [if_pos e]; omega
set_option maxRecDepth 100000 in
theorem firstToken_any (w : World) (L : List Int) (hL : ∀ x ∈ L, 0 ≤ x ∧ x ≤ 255) (hl : L.length ≤ 1000000) (h1 : 1 ≤ L.length) :
    Calls Try.prog 46 #[.string (strOf L)] w (RetQ (firstT L).v w none fun _ => True) := by
  have B1 := Lib.hid (IsB.new w 34 #[.int .i64 0, .string { data := #[] }, .int .u32 0, .int .i64 0])
  have G1 := Lib.hid (gb_alloc w (.cells #[.int .i64 0, .string { data := #[] }, .int .u32 0, .int .i64 0] 34) none)
  have HI := strOf_at L hL 0
  have z := strOf_size L
  have hx := getD_byte hL 0
  have HF := Lib.hid (show firstT L = if isL (L.getD 0 0) = true then nameT (L.take (spanK isW L)) else if isD (L.getD 0 0) = true then numT (L.take (spanK isA L)) else symT (L.take (symK L)) from rfl)
  have HL := Lib.hid (fun w => isLetter_any w (L.getD 0 0) hx.1 hx.2)
  have HD := Lib.hid (fun w => isDigit_any w (L.getD 0 0) hx.1 hx.2)
  cases hb : isL (L.getD 0 0)
  · cases hd : isD (L.getD 0 0)
    · -- a symbol
      have hk := symK_le L h1
      have x1 := strOf_cut L 0 (symK L)
      rw [List.drop_zero, Nat.sub_zero] at x1
      have HK := Lib.hid (fun w => symExt_any w L hL hl h1)
      have HT := Lib.hid (fun w => symbolToken_any w (L.take (symK L)) (take_range hL _) (by simp; omega))
      rw [hb] at HL HF
      rw [hd] at HD HF
      simp only [Bool.false_eq_true, if_false] at HF
      obtain ⟨r, hr⟩ : ∃ r, r = strOf L := ⟨_, rfl⟩
      rw [← hr] at z HI HK x1 ⊢
      obtain ⟨x, hxx⟩ : ∃ x, x = L.getD 0 0 := ⟨_, rfl⟩
      rw [← hxx] at HI HL HD hx
      obtain ⟨k, hkk⟩ : ∃ k, k = symK L := ⟨_, rfl⟩
      rw [← hkk] at hk HK x1 HT HF
      obtain ⟨p, hp⟩ : ∃ p, p = strOf (L.take k) := ⟨_, rfl⟩
      rw [← hp] at x1 HT
      obtain ⟨⟨tk, tt, tv, te⟩, hff⟩ : ∃ f, f = symT (L.take k) := ⟨_, rfl⟩
      rw [← hff] at HT HF
      have hki : (k : Int) ≤ L.length := by omega
      clear hL hr hxx hkk hp hff hb hd
      go_enter Try.func46, Try.ntmps46
      go_wp2_with fail
      refine (HL.out _).mono ?_
      rintro e w2 ⟨rfl, rfl⟩
      go_wp2_with fail
      refine (HD.out _).mono ?_
      rintro e w2 ⟨rfl, rfl⟩
      go_wp2_with fail
      refine (HK.out _).mono ?_
      rintro e w2 ⟨rfl, rfl⟩
      go_wp2_with fail
      refine (HT.out _).mono ?_
      rintro e w2 ⟨rfl, g2, _⟩
      have B2 := B1.out.keep0 g2
      have G2 := Lib.hid (gb_trans G1.out g2)
      obtain ⟨c0, c1, c2, c3, f0, f1, f2, f3⟩ := tok_cells B2
      clear g2 G1 B1 B2
      simp only [Tk.v, tokE]
      go_wp2
      (try simp only [Exit.inBlock, Exit.then])
      refine bodyPost_ret (v := .tuple #[.agg #[.int .i64 tk, .string (strOf tt), .int .u32 tv, .int .i64 0], .int .i64 te]) (by rw [results_cell_tmp rfl]; go_simp) rfl ⟨?_, ?_, trivial⟩
      · rw [HF.out]; rfl
      · repeat refine gb_put ?_ (Nat.le_refl _)
        exact G2.out
    · -- a number
      have hk := spanK_le isA L
      have hk1 := spanK_pos (p := isA) h1 (by unfold isA; rw [hd]; simp)
      have x1 := strOf_cut L 0 (spanK isA L)
      rw [List.drop_zero, Nat.sub_zero] at x1
      have HK := Lib.hid (fun w => numberExtent_any w L hL hl)
      have HT := Lib.hid (fun w => numberToken_any w (L.take (spanK isA L)) (take_range hL _) (by simp; omega) (by simp; omega))
      rw [hb] at HL HF
      rw [hd] at HD HF
      simp only [Bool.false_eq_true, if_false, if_true] at HF
      obtain ⟨r, hr⟩ : ∃ r, r = strOf L := ⟨_, rfl⟩
      rw [← hr] at z HI HK x1 ⊢
      obtain ⟨x, hxx⟩ : ∃ x, x = L.getD 0 0 := ⟨_, rfl⟩
      rw [← hxx] at HI HL HD hx
      obtain ⟨k, hkk⟩ : ∃ k, k = spanK isA L := ⟨_, rfl⟩
      rw [← hkk] at hk HK x1 HT HF
      obtain ⟨p, hp⟩ : ∃ p, p = strOf (L.take k) := ⟨_, rfl⟩
      rw [← hp] at x1 HT
      obtain ⟨⟨tk, tt, tv, te⟩, hff⟩ : ∃ f, f = numT (L.take k) := ⟨_, rfl⟩
      rw [← hff] at HT HF
      have hki : (k : Int) ≤ L.length := by omega
      clear hL hr hxx hkk hp hff hb hd
      go_enter Try.func46, Try.ntmps46
      go_wp2_with fail
      refine (HL.out _).mono ?_
      rintro e w2 ⟨rfl, rfl⟩
      go_wp2_with fail
      refine (HD.out _).mono ?_
      rintro e w2 ⟨rfl, rfl⟩
      go_wp2_with fail
      refine (HK.out _).mono ?_
      rintro e w2 ⟨rfl, rfl⟩
      go_wp2_with fail
      refine (HT.out _).mono ?_
      rintro e w2 ⟨rfl, g2, _⟩
      have B2 := B1.out.keep0 g2
      have G2 := Lib.hid (gb_trans G1.out g2)
      obtain ⟨c0, c1, c2, c3, f0, f1, f2, f3⟩ := tok_cells B2
      clear g2 G1 B1 B2
      simp only [Tk.v, tokE]
      go_wp2
      (try simp only [Exit.inBlock, Exit.then])
      refine bodyPost_ret (v := .tuple #[.agg #[.int .i64 tk, .string (strOf tt), .int .u32 tv, .int .i64 0], .int .i64 te]) (by rw [results_cell_tmp rfl]; go_simp) rfl ⟨?_, ?_, trivial⟩
      · rw [HF.out]; rfl
      · repeat refine gb_put ?_ (Nat.le_refl _)
        exact G2.out
  · -- a name
    have hk := spanK_le isW L
    have x1 := strOf_cut L 0 (spanK isW L)
    rw [List.drop_zero, Nat.sub_zero] at x1
    have HK := Lib.hid (fun w => nameExtent_any w L hL hl)
    have HT := Lib.hid (fun w => nameToken_any w (L.take (spanK isW L)) (take_range hL _) (by simp; omega))
    rw [hb] at HL HF
    simp only [if_true] at HF
    obtain ⟨r, hr⟩ : ∃ r, r = strOf L := ⟨_, rfl⟩
    rw [← hr] at z HI HK x1 ⊢
    obtain ⟨x, hxx⟩ : ∃ x, x = L.getD 0 0 := ⟨_, rfl⟩
    rw [← hxx] at HI HL HD hx
    obtain ⟨k, hkk⟩ : ∃ k, k = spanK isW L := ⟨_, rfl⟩
    rw [← hkk] at hk HK x1 HT HF
    obtain ⟨p, hp⟩ : ∃ p, p = strOf (L.take k) := ⟨_, rfl⟩
    rw [← hp] at x1 HT
    obtain ⟨⟨tk, tt, tv, te⟩, hff⟩ : ∃ f, f = nameT (L.take k) := ⟨_, rfl⟩
    rw [← hff] at HT HF
    have hki : (k : Int) ≤ L.length := by omega
    clear hL hr hxx hkk hp hff hb
    go_enter Try.func46, Try.ntmps46
    go_wp2_with fail
    refine (HL.out _).mono ?_
    rintro e w2 ⟨rfl, rfl⟩
    go_wp2_with fail
    refine (HK.out _).mono ?_
    rintro e w2 ⟨rfl, rfl⟩
    go_wp2_with fail
    refine (HT.out _).mono ?_
    rintro e w2 ⟨rfl, g2, _⟩
    have B2 := B1.out.keep0 g2
    have G2 := Lib.hid (gb_trans G1.out g2)
    obtain ⟨c0, c1, c2, c3, f0, f1, f2, f3⟩ := tok_cells B2
    clear g2 G1 B1 B2
    simp only [Tk.v, tokE]
    go_wp2
    (try simp only [Exit.inBlock, Exit.then])
    refine bodyPost_ret (v := .tuple #[.agg #[.int .i64 tk, .string (strOf tt), .int .u32 tv, .int .i64 0], .int .i64 te]) (by rw [results_cell_tmp rfl]; go_simp) rfl ⟨?_, ?_, trivial⟩
    · rw [HF.out]; rfl
    · repeat refine gb_put ?_ (Nat.le_refl _)
      exact G2.out
end Go.Proofs.Ytmbdpiffdiiggaa
