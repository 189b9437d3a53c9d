/- Names and numbers as tokens: the walks of nameToken, numberError and numberToken; no condition but sizes and the bytes' range. -/
import Derived.Test.YtmbdpiffdiiggaaLxC
namespace Go.Proofs.Ytmbdpiffdiiggaa
open Go.RowKit
set_option linter.unusedVariables false

/-- A token and an error, as the lexer hands them back. -/
def tokE (k : Int) (T : List Int) (v e : Int) : Value := .tuple #[.agg #[.int .i64 k, .string (strOf T), .int .u32 v, .int .i64 0], .int .i64 e]
structure Tk where
  kind : Int
  text : List Int
  val : Int
  err : Int
def Tk.v (t : Tk) : Value := tokE t.kind t.text t.val t.err
def noTk (e : Int) : Tk := ⟨0, [], 0, e⟩
def nameT (T : List Int) : Tk := if T.length ≤ 16 then ⟨1, T, 0, 0⟩ else noTk 4
def numErr (T : List Int) : Int :=
  if 2 < T.length ∧ T.take 2 = [48, 120] then (if spanK isX (T.drop 2) < (T.drop 2).length then 5 else 9)
  else if T.getD 0 0 = 48 then 5 else if spanK isD T < T.length then 5 else 9
def numT (T : List Int) : Tk := if (prU T).2 = true then ⟨2, T, (prU T).1, 0⟩ else noTk (numErr T)
theorem ret_tok {k k2 v v2 e e2 : Int} {T T2 : List Int} (h : (⟨k, T, v, e⟩ : Tk) = ⟨k2, T2, v2, e2⟩) : Ending.returned (.tuple #[.agg #[.int .i64 k, .string (strOf T), .int .u32 v, .int .i64 0], .int .i64 e]) = .returned (Tk.v ⟨k2, T2, v2, e2⟩) := by
  cases h; rfl

set_option maxRecDepth 100000 in
theorem nameToken_any (w : World) (T : List Int) (hT : ∀ x ∈ T, 0 ≤ x ∧ x ≤ 255) (hl : T.length ≤ 1000000) :
    Calls Try.prog 64 #[.string (strOf T)] w (RetQ (nameT T).v w none fun _ => True) := by
  have HT := Lib.hid hT
  have z := strOf_size T
  by_cases h16 : T.length ≤ 16
  · have HE := Lib.hid (show nameT T = ⟨1, T, 0, 0⟩ from if_pos h16)
    have H1 := Lib.hid (newToken_any (w.alloc (.cells #[.int .i64 0, .string { data := #[] }, .int .u32 0, .int .i64 0] 34)) 1 T 0 hT)
    have i1 : ¬ (16 : Int) < T.length := by omega
    have B1 := Lib.hid (IsB.new w 34 #[.int .i64 0, .string { data := #[] }, .int .u32 0, .int .i64 0])
    have G1 := Lib.hid (gb_alloc w (.cells #[.int .i64 0, .string { data := #[] }, .int .u32 0, .int .i64 0] 34) none)
    obtain ⟨r, hr⟩ : ∃ r, r = strOf T := ⟨_, rfl⟩
    rw [← hr] at z H1 ⊢
    have HRr := Lib.hid hr
    clear hT hr
    go_enter Try.func64, Try.ntmps64
    go_wp2_with fail
    refine H1.out.mono ?_
    rintro e w2 ⟨rfl, g2, _⟩
    have B2 := Lib.hid (B1.out.keep0 g2)
    have G2 := Lib.hid (gb_trans G1.out g2)
    have c0 : w2.cell? ⟨w.heap.size, 0, none⟩ = some (.int .i64 0) := B2.out.cell 0
    have c1 : w2.cell? ⟨w.heap.size, 1, none⟩ = some (.string { data := #[] }) := B2.out.cell 1
    have c2 : w2.cell? ⟨w.heap.size, 2, none⟩ = some (.int .u32 0) := B2.out.cell 2
    have c3 : w2.cell? ⟨w.heap.size, 3, none⟩ = some (.int .i64 0) := B2.out.cell 3
    have f0 := B2.out.free 0
    have f1 := B2.out.free 1
    have f2 := B2.out.free 2
    have f3 := B2.out.free 3
    clear g2 G1 B1
    go_wp2
    (try simp only [Exit.inBlock, Exit.then])
    refine bodyPost_ret (v := .tuple #[.agg #[.int .i64 1, .string r, .int .u32 0, .int .i64 0], .int .i64 0]) (by rw [results_cell_tmp rfl]; go_simp) rfl ⟨?_, ?_, trivial⟩
    · rw [HE.out, HRr.out]; rfl
    · repeat refine gb_put ?_ (Nat.le_refl _)
      exact G2.out
  · have HE := Lib.hid (show nameT T = noTk 4 from if_neg h16)
    have i1 : (16 : Int) < T.length := by omega
    have B1 := IsB.new w 34 #[.int .i64 0, .string { data := #[] }, .int .u32 0, .int .i64 0]
    have G1 := Lib.hid (gb_alloc w (.cells #[.int .i64 0, .string { data := #[] }, .int .u32 0, .int .i64 0] 34) none)
    obtain ⟨r, hr⟩ : ∃ r, r = strOf T := ⟨_, rfl⟩
    rw [← hr] at z ⊢
    clear hT hr B1
    go_enter Try.func64, Try.ntmps64
    go_wp2
    (try simp only [Exit.inBlock, Exit.then])
    refine bodyPost_ret (v := .tuple #[.agg #[.int .i64 0, .string { data := #[] }, .int .u32 0, .int .i64 0], .int .i64 4]) (by rw [results_cell_tmp rfl]; go_simp) rfl ⟨?_, ?_, trivial⟩
    · rw [HE.out]; rfl
    · repeat refine gb_put ?_ (Nat.le_refl _)
      exact G1.out

theorem data2 : (ByteArray.mk #[48, 120]).toList = [48, 120] := ByteArray.toList_mk [48, 120]
set_option maxRecDepth 100000 in
theorem numberError_any (w : World) (T : List Int) (hT : ∀ x ∈ T, 0 ≤ x ∧ x ≤ 255) (hl : T.length ≤ 1000000) (h1 : 1 ≤ T.length) :
    Calls Try.prog 83 #[.string (strOf T)] w (RetS (.int .i64 (numErr T)) w) := by
  have z := strOf_size T
  have x1 := strOf_cut T 0 2
  rw [List.drop_zero, Nat.sub_zero] at x1
  by_cases hx : 2 < T.length ∧ T.take 2 = [48, 120]
  · rw [hx.2, show strOf [48, 120] = ⟨#[48, 120]⟩ from rfl] at x1
    have x2 := strOf_from T 2
    have hD : ∀ x ∈ T.drop 2, 0 ≤ x ∧ x ≤ 255 := fun x h => hT x (List.mem_of_mem_drop h)
    have HS := Lib.hid (fun w => span_any 94 isX w (T.drop 2) hD (by simp; omega) (fun _ _ => by rfl) (fun w c h0 h1 => isHexDigit_any w c h0 h1))
    have z2 := strOf_size (T.drop 2)
    have HR := Lib.hid (show numErr T = if spanK isX (T.drop 2) < (T.drop 2).length then 5 else 9 by unfold numErr; rw [if_pos hx])
    have hk := spanK_le isX (T.drop 2)
    have hlen : (T.drop 2).length ≤ T.length := by simp
    obtain ⟨k, hkk⟩ : ∃ k, k = spanK isX (T.drop 2) := ⟨_, rfl⟩
    rw [← hkk] at HS HR hk
    obtain ⟨m, hm⟩ : ∃ m, m = (T.drop 2).length := ⟨_, rfl⟩
    rw [← hm] at HR hk z2 hlen
    obtain ⟨d, hd⟩ : ∃ d, d = strOf (T.drop 2) := ⟨_, rfl⟩
    rw [← hd] at HS x2 z2
    obtain ⟨r, hr⟩ : ∃ r, r = strOf T := ⟨_, rfl⟩
    rw [← hr] at z x1 x2 ⊢
    have q1 : ((ByteArray.mk #[48, 120]).toList == (ByteArray.mk #[48, 120]).toList) = true := by rw [beq_iff_eq]
    have i1 : (2 : Int) < T.length := by omega
    have i2 : (2 : Int) ≤ T.length := by omega
    clear hT hD hr hd hm hkk hx
    by_cases hkm : k < m
    · have i3 : (k : Int) < m := by omega
      go_enter Try.func83, Try.ntmps83
      go_wp2_with fail
      refine (HS.out _).mono ?_
      rintro e w2 ⟨rfl, rfl⟩
      go_wp2
      go_ret
      exact ⟨ret_i (by rw [HR.out, if_pos hkm]), rfl⟩
    · have i3 : ¬ (k : Int) < m := by omega
      go_enter Try.func83, Try.ntmps83
      go_wp2_with fail
      refine (HS.out _).mono ?_
      rintro e w2 ⟨rfl, rfl⟩
      go_wp2
      go_ret
      exact ⟨ret_i (by rw [HR.out, if_neg hkm]), rfl⟩
  · have HR := Lib.hid (show numErr T = if T.getD 0 0 = 48 then 5 else if spanK isD T < T.length then 5 else 9 by unfold numErr; rw [if_neg hx])
    have HI := strOf_at T hT 0
    have q : 2 < T.length → ((strOf (T.take 2)).toList == (ByteArray.mk #[48, 120]).toList) = false := by
      intro h2
      rw [show (ByteArray.mk #[48, 120]) = strOf [48, 120] from rfl]
      exact strOf_ne (fun x hx => hT x (List.mem_of_mem_take hx)) (by decide) (fun e => hx ⟨h2, e⟩)
    have HS := Lib.hid (fun w => span_any 65 isD w T hT hl (fun _ _ => by rfl) (fun w c h0 h1 => isDigit_any w c h0 h1))
    have hk := spanK_le isD T
    obtain ⟨k, hkk⟩ : ∃ k, k = spanK isD T := ⟨_, rfl⟩
    rw [← hkk] at HS HR hk
    obtain ⟨x, hxx⟩ : ∃ x, x = T.getD 0 0 := ⟨_, rfl⟩
    rw [← hxx] at HI HR
    obtain ⟨p, hp⟩ : ∃ p, p = strOf (T.take 2) := ⟨_, rfl⟩
    rw [← hp] at q x1
    obtain ⟨r, hrr⟩ : ∃ r, r = strOf T := ⟨_, rfl⟩
    rw [← hrr] at z x1 HI HS ⊢
    clear hT hrr hp hx hxx hkk
    by_cases h2 : 2 < T.length
    · have q2 := q h2
      have q3 : (p.toList == [48, 120]) = false := by
        have k := q2
        rw [data2] at k
        exact k
      have i2 : (2 : Int) < T.length := by omega
      have i4 : (2 : Int) ≤ T.length := by omega
      clear q
      by_cases hx0 : x = 48
      · have d0 : (x == 48) = true := by rw [beq_iff_eq]; exact hx0
        go_enter Try.func83, Try.ntmps83
        go_wp2
        go_ret
        exact ⟨ret_i (by rw [HR.out, if_pos hx0]), rfl⟩
      · have d0 : (x == 48) = false := by rw [beq_eq_false_iff_ne]; exact hx0
        by_cases hkm : k < T.length
        · have i3 : (k : Int) < T.length := by omega
          go_enter Try.func83, Try.ntmps83
          go_wp2_with fail
          refine (HS.out _).mono ?_
          rintro e w2 ⟨rfl, rfl⟩
          go_wp2
          go_ret
          exact ⟨ret_i (by rw [HR.out, if_neg hx0, if_pos hkm]), rfl⟩
        · have i3 : ¬ (k : Int) < T.length := by omega
          go_enter Try.func83, Try.ntmps83
          go_wp2_with fail
          refine (HS.out _).mono ?_
          rintro e w2 ⟨rfl, rfl⟩
          go_wp2
          go_ret
          exact ⟨ret_i (by rw [HR.out, if_neg hx0, if_neg hkm]), rfl⟩
    · have i2 : ¬ (2 : Int) < T.length := by omega
      clear q x1
      by_cases hx0 : x = 48
      · have d0 : (x == 48) = true := by rw [beq_iff_eq]; exact hx0
        go_enter Try.func83, Try.ntmps83
        go_wp2
        go_ret
        exact ⟨ret_i (by rw [HR.out, if_pos hx0]), rfl⟩
      · have d0 : (x == 48) = false := by rw [beq_eq_false_iff_ne]; exact hx0
        by_cases hkm : k < T.length
        · have i3 : (k : Int) < T.length := by omega
          go_enter Try.func83, Try.ntmps83
          go_wp2_with fail
          refine (HS.out _).mono ?_
          rintro e w2 ⟨rfl, rfl⟩
          go_wp2
          go_ret
          exact ⟨ret_i (by rw [HR.out, if_neg hx0, if_pos hkm]), rfl⟩
        · have i3 : ¬ (k : Int) < T.length := by omega
          go_enter Try.func83, Try.ntmps83
          go_wp2_with fail
          refine (HS.out _).mono ?_
          rintro e w2 ⟨rfl, rfl⟩
          go_wp2
          go_ret
          exact ⟨ret_i (by rw [HR.out, if_neg hx0, if_neg hkm]), rfl⟩

set_option maxRecDepth 100000 in
theorem numberToken_any (w : World) (T : List Int) (hT : ∀ x ∈ T, 0 ≤ x ∧ x ≤ 255) (hl : T.length ≤ 1000000) (h1 : 1 ≤ T.length) :
    Calls Try.prog 66 #[.string (strOf T)] w (RetQ (numT T).v w none fun _ => True) := by
  have HP := Lib.hid (parseU_any (w.alloc (.cells #[.int .i64 0, .string { data := #[] }, .int .u32 0, .int .i64 0] 34)) T hl hT)
  have HN := Lib.hid (fun w v => newToken_any w 2 T v hT)
  have HE := Lib.hid (fun w => numberError_any w T hT hl h1)
  have HR := Lib.hid (show numT T = if (prU T).2 = true then ⟨2, T, (prU T).1, 0⟩ else noTk (numErr T) from rfl)
  obtain ⟨v, ok, hvo⟩ : ∃ v ok, prU T = (v, ok) := ⟨_, _, rfl⟩
  rw [hvo] at HP HR
  have B1 := Lib.hid (IsB.new w 34 #[.int .i64 0, .string { data := #[] }, .int .u32 0, .int .i64 0])
  have G1 := Lib.hid (gb_alloc w (.cells #[.int .i64 0, .string { data := #[] }, .int .u32 0, .int .i64 0] 34) none)
  obtain ⟨r, hr⟩ : ∃ r, r = strOf T := ⟨_, rfl⟩
  rw [← hr] at HP HN HE ⊢
  have HRr := Lib.hid hr
  clear hT hr hvo
  cases ok with
  | false =>
    obtain ⟨q, hq⟩ : ∃ q, q = numErr T := ⟨_, rfl⟩
    rw [← hq] at HE HR
    clear hq
    go_enter Try.func66, Try.ntmps66
    go_wp2_with fail
    refine HP.out.mono ?_
    rintro e w2 ⟨rfl, g2, _⟩
    have B2 := Lib.hid (B1.out.keep0 g2)
    have G2 := Lib.hid (gb_trans G1.out g2)
    have c0 : w2.cell? ⟨w.heap.size, 0, none⟩ = some (.int .i64 0) := B2.out.cell 0
    have c1 : w2.cell? ⟨w.heap.size, 1, none⟩ = some (.string { data := #[] }) := B2.out.cell 1
    have c2 : w2.cell? ⟨w.heap.size, 2, none⟩ = some (.int .u32 0) := B2.out.cell 2
    have c3 : w2.cell? ⟨w.heap.size, 3, none⟩ = some (.int .i64 0) := B2.out.cell 3
    have f0 := B2.out.free 0
    have f1 := B2.out.free 1
    have f2 := B2.out.free 2
    have f3 := B2.out.free 3
    clear g2 G1 B1
    go_wp2_with fail
    refine (HE.out _).mono ?_
    rintro e w3 ⟨rfl, rfl⟩
    go_wp2
    (try simp only [Exit.inBlock, Exit.then])
    refine bodyPost_ret (v := .tuple #[.agg #[.int .i64 0, .string { data := #[] }, .int .u32 0, .int .i64 0], .int .i64 q]) (by rw [results_cell_tmp rfl]; go_simp) rfl ⟨?_, ?_, trivial⟩
    · rw [HR.out, if_neg (by decide)]; rfl
    · repeat refine gb_put ?_ (Nat.le_refl _)
      exact G2.out
  | true =>
    go_enter Try.func66, Try.ntmps66
    go_wp2_with fail
    refine HP.out.mono ?_
    rintro e w2 ⟨rfl, g2, _⟩
    have B2 := Lib.hid (B1.out.keep0 g2)
    have G2 := Lib.hid (gb_trans G1.out g2)
    clear g2 G1 B1
    go_wp2_with fail
    refine (HN.out _ _).mono ?_
    rintro e w3 ⟨rfl, g3, _⟩
    have B3 := Lib.hid (B2.out.keep0 g3)
    have G3 := Lib.hid (gb_trans G2.out g3)
    have c0 : w3.cell? ⟨w.heap.size, 0, none⟩ = some (.int .i64 0) := B3.out.cell 0
    have c1 : w3.cell? ⟨w.heap.size, 1, none⟩ = some (.string { data := #[] }) := B3.out.cell 1
    have c2 : w3.cell? ⟨w.heap.size, 2, none⟩ = some (.int .u32 0) := B3.out.cell 2
    have c3 : w3.cell? ⟨w.heap.size, 3, none⟩ = some (.int .i64 0) := B3.out.cell 3
    have f0 := B3.out.free 0
    have f1 := B3.out.free 1
    have f2 := B3.out.free 2
    have f3 := B3.out.free 3
    clear g3 G2 B2
    go_wp2
    (try simp only [Exit.inBlock, Exit.then])
    refine bodyPost_ret (v := .tuple #[.agg #[.int .i64 2, .string r, .int .u32 v, .int .i64 0], .int .i64 0]) (by rw [results_cell_tmp rfl]; go_simp) rfl ⟨?_, ?_, trivial⟩
    · rw [HR.out, if_pos trivial, HRr.out]; rfl
    · repeat refine gb_put ?_ (Nat.le_refl _)
      exact G3.out
end Go.Proofs.Ytmbdpiffdiiggaa
