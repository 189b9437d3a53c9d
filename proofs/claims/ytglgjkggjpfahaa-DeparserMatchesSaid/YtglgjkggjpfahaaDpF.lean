/- Deparser: the law awake; no condition. -/
import Derived.Test.YtglgjkggjpfahaaDpE
import Derived.BigQuiet
namespace Go.Proofs.Ytglgjkggjpfahaa
open Go.RowKit
set_option linter.unusedVariables false
def hA : List (ByteArray × List Fld) := [(⟨#[97]⟩, [(⟨#[120]⟩, 8)]), (⟨#[98]⟩, [(⟨#[121]⟩, 4), (⟨#[122]⟩, 4)])]
def eA : EL := ⟨[true, true], [[1], [2, 3]], [], [9]⟩
def eB : EL := ⟨[true, false], [[1], [0, 0]], [], [9]⟩
theorem id_1 : isI ⟨#[97]⟩ = true ∧ isI ⟨#[98]⟩ = true ∧ isI ⟨#[120]⟩ = true ∧ isI ⟨#[121]⟩ = true ∧ isI ⟨#[122]⟩ = true := ⟨by decide +kernel, by decide +kernel, by decide +kernel, by decide +kernel, by decide +kernel⟩
theorem ne_yz : eqS ⟨#[121]⟩ ⟨#[122]⟩ = false := by unfold eqS; rw [ByteArray.toList_eq, ByteArray.toList_eq]; decide
theorem chk_a : chkH ⟨#[97]⟩ [(⟨#[120]⟩, 8)] = 0 := by
  have h1 : chkF [(⟨#[120]⟩, 8)] 0 = 0 := by unfold chkF; simp [id_1, hasNm]
  have h3 : errs [(⟨#[120]⟩, 8)] 1 = 0 := errs_next _ 0 rfl h1
  unfold chkH
  rw [id_1.1, if_neg (by decide), if_neg (by decide), if_neg (by decide), show ([(⟨#[120]⟩, 8)] : List Fld).length = 1 from rfl, if_pos h3]
  decide
theorem chk_b : chkH ⟨#[98]⟩ [(⟨#[121]⟩, 4), (⟨#[122]⟩, 4)] = 0 := by
  have h1 : chkF [(⟨#[121]⟩, 4), (⟨#[122]⟩, 4)] 0 = 0 := by unfold chkF; simp [id_1, hasNm]
  have h2 : chkF [(⟨#[121]⟩, 4), (⟨#[122]⟩, 4)] 1 = 0 := by unfold chkF; simp [id_1, hasNm, ne_yz]
  have h3 : errs [(⟨#[121]⟩, 4), (⟨#[122]⟩, 4)] 2 = 0 := errs_next _ 1 (errs_next _ 0 rfl h1) h2
  unfold chkH
  rw [id_1.2.1, if_neg (by decide), if_neg (by decide), if_neg (by decide), show ([(⟨#[121]⟩, 4), (⟨#[122]⟩, 4)] : List Fld).length = 2 from rfl, if_pos h3]
  decide
theorem hds_A : hdsOk hA := by
  intro x hx
  simp only [hA, List.mem_cons, List.mem_nil_iff, or_false] at hx
  rcases hx with rfl | rfl
  · exact chk_a
  · exact chk_b
theorem env_A : envOk hA [] eA := ⟨by unfold shP; decide +kernel, by unfold ftP; decide +kernel, by unfold zrP; decide +kernel⟩
theorem env_B : envOk hA [] eB := ⟨by unfold shP; decide +kernel, by unfold ftP; decide +kernel, by unfold zrP; decide +kernel⟩
theorem dc_A : dcOk 2 [1, 0] := ⟨by decide, by unfold dpX; decide +kernel⟩
theorem dc_B : DC 2 [1, 1] 1 7 := .inr (.inl ⟨by decide, 1, by decide, by unfold dpX; decide +kernel, by unfold dpX; decide +kernel, rfl, by unfold dpX; decide +kernel⟩)
theorem dc_A2 : DC 2 [1, 0] 0 0 := .inr (.inr ⟨by decide, by unfold dpX; decide +kernel, rfl, rfl⟩)
theorem wr_b (B : List Bool) : (wrH ⟨#[98]⟩ [(⟨#[121]⟩, 4), (⟨#[122]⟩, 4)] [2, 3] B).2 = B ++ (pkRun [] ([2, 3].zip (wsL [(⟨#[121]⟩, 4), (⟨#[122]⟩, 4)]))).2 := by
  unfold wrH
  rw [chk_b, if_neg (by decide), if_neg (by decide), if_pos (by decide +kernel)]
theorem wr_a (B : List Bool) : (wrH ⟨#[97]⟩ [(⟨#[120]⟩, 8)] [1] B).2 = B ++ (pkRun [] ([1].zip (wsL [(⟨#[120]⟩, 8)]))).2 := by
  unfold wrH
  rw [chk_a, if_neg (by decide), if_neg (by decide), if_pos (by decide +kernel)]
theorem em_A : [35, 1, 9] = emit hA [] [1, 0] eA := by
  rw [emit_yes (show dcOk hA.length [1, 0] from dc_A) hds_A env_A]
  have e : emL hA eA.V eA.F [] [1, 0] = (wrH ⟨#[97]⟩ [(⟨#[120]⟩, 8)] [1] (wrH ⟨#[98]⟩ [(⟨#[121]⟩, 4), (⟨#[122]⟩, 4)] [2, 3] []).2).2 := rfl
  rw [e, wr_a, wr_b]
  decide +kernel
theorem em_B : [1, 9] = emit hA [] [1, 0] eB := by
  rw [emit_yes (show dcOk hA.length [1, 0] from dc_A) hds_A env_B]
  have e : emL hA eB.V eB.F [] [1, 0] = (wrH ⟨#[97]⟩ [(⟨#[120]⟩, 8)] [1] []).2 := rfl
  rw [e, wr_a]
  decide +kernel
theorem hz_A : HZ hA := by
  refine ⟨fun x hx => ?_, fun x hx => ?_⟩
  · simp only [hA, List.mem_cons, List.mem_nil_iff, or_false] at hx
    rcases hx with rfl | rfl
    · exact ⟨by decide, fun p hp => by simp only [List.mem_cons, List.mem_nil_iff, or_false] at hp; subst hp; decide⟩
    · exact ⟨by decide, fun p hp => by simp only [List.mem_cons, List.mem_nil_iff, or_false] at hp; rcases hp with rfl | rfl <;> decide⟩
  · simp only [hA, List.mem_cons, List.mem_nil_iff, or_false] at hx
    rcases hx with rfl | rfl <;> decide
theorem dcl_A (j : Nat) : ((dclL hA []).getD j []).length ≤ 100000 := by
  match j with
  | 0 => decide +kernel
  | 1 => decide +kernel
  | 2 => decide +kernel
  | j + 3 => simp [dclL, hA]
theorem pz_A (va fa pa : Option Addr) (F : List (List Int)) (hF : F = [[1], [2, 3]] ∨ F = [[1], [0, 0]]) (V : List Bool) : PZ 2 hA [] ⟨va, fa, none, pa, 2, 2, 2, 2, 0, 0, 1, 1⟩ ⟨V, F, [], [9]⟩ := by
  refine ⟨hz_A, by decide, dcl_A, by simp, fun _ => ⟨by simp, by simp, by simp, by simp, fun j => ?_⟩, by simp⟩
  rcases hF with rfl | rfl <;>
  · match j with
    | 0 => simp
    | 1 => simp
    | j + 2 => simp
theorem sf_1 {w : World} {g : Nat} {t : TypeId} {s : ByteArray} {x : Int} (h : IsB w g t #[.string s, .int .i64 x]) : SF w (some ⟨g, 0, none⟩) 1 1 [(s, x)] := by
  refine ⟨rfl, (fun e => by cases e), Nat.le_refl _, fun ad e j hj => ?_⟩
  cases e
  obtain rfl : j = 0 := by omega
  exact ⟨by simpa [Addr.add] using h.cell 0, by simpa [Addr.add] using h.cell 1⟩
theorem sf_2 {w : World} {g : Nat} {t : TypeId} {s s2 : ByteArray} {x x2 : Int} (h : IsB w g t #[.string s, .int .i64 x, .string s2, .int .i64 x2]) : SF w (some ⟨g, 0, none⟩) 2 2 [(s, x), (s2, x2)] := by
  refine ⟨rfl, (fun e => by cases e), Nat.le_refl _, fun ad e j hj => ?_⟩
  cases e
  rcases (show j = 0 ∨ j = 1 by omega) with rfl | rfl
  · exact ⟨by simpa [Addr.add] using h.cell 0, by simpa [Addr.add] using h.cell 1⟩
  · exact ⟨by simpa [Addr.add] using h.cell 2, by simpa [Addr.add] using h.cell 3⟩
theorem sh_2 {w : World} {g : Nat} {t : TypeId} {s s2 : ByteArray} {a a2 : Option Addr} {n c n2 c2 : Nat} {L L2 : List Fld} (h : IsB w g t #[.string s, .slice a n c, .string s2, .slice a2 n2 c2]) (h1 : SF w a n c L) (h2 : SF w a2 n2 c2 L2) : SH w (some ⟨g, 0, none⟩) 2 2 [(s, L), (s2, L2)] := by
  refine ⟨rfl, (fun e => by cases e), Nat.le_refl _, fun ad e j hj => ?_⟩
  cases e
  rcases (show j = 0 ∨ j = 1 by omega) with rfl | rfl
  · exact ⟨by simpa [Addr.add] using h.cell 0, a, n, c, by simpa [Addr.add] using h.cell 1, h1⟩
  · exact ⟨by simpa [Addr.add] using h.cell 2, a2, n2, c2, by simpa [Addr.add] using h.cell 3, h2⟩
theorem si_2 {w : World} {g : Nat} {t : TypeId} {x y : Int} (h : IsB w g t #[.int .i64 x, .int .i64 y]) (r : ∀ z ∈ [x, y], -9223372036854775808 ≤ z ∧ z ≤ 9223372036854775807) : SI w (some ⟨g, 0, none⟩) 2 2 [x, y] := by
  refine ⟨rfl, (fun e => by cases e), Nat.le_refl _, fun ad e j hj => ?_, r⟩
  cases e
  rcases (show j = 0 ∨ j = 1 by omega) with rfl | rfl
  · simpa [Addr.add] using h.cell 0
  · simpa [Addr.add] using h.cell 1
theorem sb_2 {w : World} {g : Nat} {t : TypeId} {x y : Bool} (h : IsB w g t #[.bool x, .bool y]) : SB w (some ⟨g, 0, none⟩) 2 2 [x, y] := by
  refine ⟨rfl, (fun e => by cases e), Nat.le_refl _, fun ad e j hj => ?_⟩
  cases e
  rcases (show j = 0 ∨ j = 1 by omega) with rfl | rfl
  · simpa [Addr.add] using h.cell 0
  · simpa [Addr.add] using h.cell 1
theorem su_1 {w : World} {g : Nat} {t : TypeId} {x : Int} (h : IsB w g t #[.int .u32 x]) (r : ∀ z ∈ [x], 0 ≤ z ∧ z < 4294967296) : SU w (some ⟨g, 0, none⟩) 1 1 [x] := by
  refine ⟨rfl, (fun e => by cases e), Nat.le_refl _, fun ad e j hj => ?_, r⟩
  cases e
  obtain rfl : j = 0 := by omega
  simpa [Addr.add] using h.cell 0
theorem su_2 {w : World} {g : Nat} {t : TypeId} {x y : Int} (h : IsB w g t #[.int .u32 x, .int .u32 y]) (r : ∀ z ∈ [x, y], 0 ≤ z ∧ z < 4294967296) : SU w (some ⟨g, 0, none⟩) 2 2 [x, y] := by
  refine ⟨rfl, (fun e => by cases e), Nat.le_refl _, fun ad e j hj => ?_, r⟩
  cases e
  rcases (show j = 0 ∨ j = 1 by omega) with rfl | rfl
  · simpa [Addr.add] using h.cell 0
  · simpa [Addr.add] using h.cell 1
theorem sr_2 {w : World} {g : Nat} {t : TypeId} {a a2 : Option Addr} {n c n2 c2 : Nat} {L L2 : List Int} (h : IsB w g t #[.slice a n c, .slice a2 n2 c2]) (h1 : SU w a n c L) (h2 : SU w a2 n2 c2 L2) : SR w (some ⟨g, 0, none⟩) 2 2 [L, L2] := by
  refine ⟨rfl, (fun e => by cases e), Nat.le_refl _, fun ad e j hj => ?_⟩
  cases e
  rcases (show j = 0 ∨ j = 1 by omega) with rfl | rfl
  · exact ⟨a, n, c, by simpa [Addr.add] using h.cell 0, h1⟩
  · exact ⟨a2, n2, c2, by simpa [Addr.add] using h.cell 1, h2⟩
theorem sy_1 {w : World} {g : Nat} {t : TypeId} {x : Int} (h : IsB w g t #[.int .u8 x]) (r : ∀ z ∈ [x], 0 ≤ z ∧ z < 256) : SY w (some ⟨g, 0, none⟩) 1 1 [x] := by
  refine ⟨⟨rfl, (fun e => by cases e), fun ad e j u hu => ?_⟩, Nat.le_refl _, r⟩
  cases e
  cases j with
  | zero => simp at hu; subst hu; simpa [Addr.add] using h.cell 0
  | succ i => simp at hu
set_option maxRecDepth 100000 in
set_option maxHeartbeats 20000000 in
theorem awake_any (w : World) : Calls Try.prog 31 #[] w (RetV (.bool true) w) := by
  have GA := Lib.hid (gb_trans (gb_trans (gb_trans (gb_trans (gb_alloc w (.cells #[.string ⟨#[120]⟩, .int .i64 8] 94) none) (gb_alloc _ (.cells #[.string ⟨#[121]⟩, .int .i64 4, .string ⟨#[122]⟩, .int .i64 4] 94) none)) (gb_alloc _ (.cells #[.string ⟨#[97]⟩, .slice (some ⟨w.heap.size, 0, none⟩) 1 1, .string ⟨#[98]⟩, .slice (some ⟨w.heap.size + 1, 0, none⟩) 2 2] 66) none)) (gb_alloc _ (.cells #[.int .i64 1, .int .i64 0] 3) none)) (gb_alloc _ (.cells #[.string ⟨#[]⟩, .slice (some ⟨w.heap.size + 1 + 1, 0, none⟩) 2 2, .slice none 0 0, .slice none 0 0, .slice none 0 0, .slice none 0 0, .slice none 0 0, .slice none 0 0, .slice (some ⟨w.heap.size + 1 + 1 + 1, 0, none⟩) 2 2] 31) none))
  have A0 := ((((IsB.new w 94 #[.string ⟨#[120]⟩, .int .i64 8]).alloc (.cells #[.string ⟨#[121]⟩, .int .i64 4, .string ⟨#[122]⟩, .int .i64 4] 94)).alloc (.cells #[.string ⟨#[97]⟩, .slice (some ⟨w.heap.size, 0, none⟩) 1 1, .string ⟨#[98]⟩, .slice (some ⟨w.heap.size + 1, 0, none⟩) 2 2] 66)).alloc (.cells #[.int .i64 1, .int .i64 0] 3)).alloc (.cells #[.string ⟨#[]⟩, .slice (some ⟨w.heap.size + 1 + 1, 0, none⟩) 2 2, .slice none 0 0, .slice none 0 0, .slice none 0 0, .slice none 0 0, .slice none 0 0, .slice none 0 0, .slice (some ⟨w.heap.size + 1 + 1 + 1, 0, none⟩) 2 2] 31)
  have A1 := (((IsB.new (w.alloc (.cells #[.string ⟨#[120]⟩, .int .i64 8] 94)) 94 #[.string ⟨#[121]⟩, .int .i64 4, .string ⟨#[122]⟩, .int .i64 4]).alloc (.cells #[.string ⟨#[97]⟩, .slice (some ⟨w.heap.size, 0, none⟩) 1 1, .string ⟨#[98]⟩, .slice (some ⟨w.heap.size + 1, 0, none⟩) 2 2] 66)).alloc (.cells #[.int .i64 1, .int .i64 0] 3)).alloc (.cells #[.string ⟨#[]⟩, .slice (some ⟨w.heap.size + 1 + 1, 0, none⟩) 2 2, .slice none 0 0, .slice none 0 0, .slice none 0 0, .slice none 0 0, .slice none 0 0, .slice none 0 0, .slice (some ⟨w.heap.size + 1 + 1 + 1, 0, none⟩) 2 2] 31)
  have A2 := ((IsB.new ((w.alloc (.cells #[.string ⟨#[120]⟩, .int .i64 8] 94)).alloc (.cells #[.string ⟨#[121]⟩, .int .i64 4, .string ⟨#[122]⟩, .int .i64 4] 94)) 66 #[.string ⟨#[97]⟩, .slice (some ⟨w.heap.size, 0, none⟩) 1 1, .string ⟨#[98]⟩, .slice (some ⟨w.heap.size + 1, 0, none⟩) 2 2]).alloc (.cells #[.int .i64 1, .int .i64 0] 3)).alloc (.cells #[.string ⟨#[]⟩, .slice (some ⟨w.heap.size + 1 + 1, 0, none⟩) 2 2, .slice none 0 0, .slice none 0 0, .slice none 0 0, .slice none 0 0, .slice none 0 0, .slice none 0 0, .slice (some ⟨w.heap.size + 1 + 1 + 1, 0, none⟩) 2 2] 31)
  have A3 := (IsB.new (((w.alloc (.cells #[.string ⟨#[120]⟩, .int .i64 8] 94)).alloc (.cells #[.string ⟨#[121]⟩, .int .i64 4, .string ⟨#[122]⟩, .int .i64 4] 94)).alloc (.cells #[.string ⟨#[97]⟩, .slice (some ⟨w.heap.size, 0, none⟩) 1 1, .string ⟨#[98]⟩, .slice (some ⟨w.heap.size + 1, 0, none⟩) 2 2] 66)) 3 #[.int .i64 1, .int .i64 0]).alloc (.cells #[.string ⟨#[]⟩, .slice (some ⟨w.heap.size + 1 + 1, 0, none⟩) 2 2, .slice none 0 0, .slice none 0 0, .slice none 0 0, .slice none 0 0, .slice none 0 0, .slice none 0 0, .slice (some ⟨w.heap.size + 1 + 1 + 1, 0, none⟩) 2 2] 31)
  have A4 := IsB.new ((((w.alloc (.cells #[.string ⟨#[120]⟩, .int .i64 8] 94)).alloc (.cells #[.string ⟨#[121]⟩, .int .i64 4, .string ⟨#[122]⟩, .int .i64 4] 94)).alloc (.cells #[.string ⟨#[97]⟩, .slice (some ⟨w.heap.size, 0, none⟩) 1 1, .string ⟨#[98]⟩, .slice (some ⟨w.heap.size + 1, 0, none⟩) 2 2] 66)).alloc (.cells #[.int .i64 1, .int .i64 0] 3)) 31 #[.string ⟨#[]⟩, .slice (some ⟨w.heap.size + 1 + 1, 0, none⟩) 2 2, .slice none 0 0, .slice none 0 0, .slice none 0 0, .slice none 0 0, .slice none 0 0, .slice none 0 0, .slice (some ⟨w.heap.size + 1 + 1 + 1, 0, none⟩) 2 2]
  simp only [sz_al] at A1 A2 A3 A4
  replace A0 := Lib.hid A0
  replace A1 := Lib.hid A1
  replace A2 := Lib.hid A2
  replace A3 := Lib.hid A3
  replace A4 := Lib.hid A4
  go_enter Try.func31, Try.ntmps31
  go_upto_region 2 with fail
  generalize ((((w.alloc (.cells #[.string ⟨#[120]⟩, .int .i64 8] 94)).alloc (.cells #[.string ⟨#[121]⟩, .int .i64 4, .string ⟨#[122]⟩, .int .i64 4] 94)).alloc (.cells #[.string ⟨#[97]⟩, .slice (some ⟨w.heap.size, 0, none⟩) 1 1, .string ⟨#[98]⟩, .slice (some ⟨w.heap.size + 1, 0, none⟩) 2 2] 66)).alloc (.cells #[.int .i64 1, .int .i64 0] 3)).alloc (.cells #[.string ⟨#[]⟩, .slice (some ⟨w.heap.size + 1 + 1, 0, none⟩) 2 2, .slice none 0 0, .slice none 0 0, .slice none 0 0, .slice none 0 0, .slice none 0 0, .slice none 0 0, .slice (some ⟨w.heap.size + 1 + 1 + 1, 0, none⟩) 2 2] 31) = w1 at *
  obtain ⟨bx, hbx⟩ : ∃ b, b = w.heap.size := ⟨_, rfl⟩
  have Lbx := Lib.hid (show w.heap.size ≤ bx by rw [hbx]; exact Nat.le_refl _)
  rw [← hbx] at A0 A1 A2 A3 A4 ⊢
  clear hbx
  have GE := Lib.hid (gb_trans (gb_trans (gb_trans (gb_trans (gb_trans (gb_alloc w1 (.cells #[.bool true, .bool true] 4) none) (gb_alloc _ (.cells #[.int .u32 1] 58) none)) (gb_alloc _ (.cells #[.int .u32 2, .int .u32 3] 58) none)) (gb_alloc _ (.cells #[.slice (some ⟨w1.heap.size + 1, 0, none⟩) 1 1, .slice (some ⟨w1.heap.size + 1 + 1, 0, none⟩) 2 2] 40) none)) (gb_alloc _ (.cells #[.int .u8 9] 5) none)) (gb_alloc _ (.cells #[.slice (some ⟨w1.heap.size, 0, none⟩) 2 2, .slice (some ⟨w1.heap.size + 1 + 1 + 1, 0, none⟩) 2 2, .slice none 0 0, .slice (some ⟨w1.heap.size + 1 + 1 + 1 + 1, 0, none⟩) 1 1] 42) none))
  have E0 := (((((IsB.new w1 4 #[.bool true, .bool true]).alloc (.cells #[.int .u32 1] 58)).alloc (.cells #[.int .u32 2, .int .u32 3] 58)).alloc (.cells #[.slice (some ⟨w1.heap.size + 1, 0, none⟩) 1 1, .slice (some ⟨w1.heap.size + 1 + 1, 0, none⟩) 2 2] 40)).alloc (.cells #[.int .u8 9] 5)).alloc (.cells #[.slice (some ⟨w1.heap.size, 0, none⟩) 2 2, .slice (some ⟨w1.heap.size + 1 + 1 + 1, 0, none⟩) 2 2, .slice none 0 0, .slice (some ⟨w1.heap.size + 1 + 1 + 1 + 1, 0, none⟩) 1 1] 42)
  have E1 := ((((IsB.new (w1.alloc (.cells #[.bool true, .bool true] 4)) 58 #[.int .u32 1]).alloc (.cells #[.int .u32 2, .int .u32 3] 58)).alloc (.cells #[.slice (some ⟨w1.heap.size + 1, 0, none⟩) 1 1, .slice (some ⟨w1.heap.size + 1 + 1, 0, none⟩) 2 2] 40)).alloc (.cells #[.int .u8 9] 5)).alloc (.cells #[.slice (some ⟨w1.heap.size, 0, none⟩) 2 2, .slice (some ⟨w1.heap.size + 1 + 1 + 1, 0, none⟩) 2 2, .slice none 0 0, .slice (some ⟨w1.heap.size + 1 + 1 + 1 + 1, 0, none⟩) 1 1] 42)
  have E2 := (((IsB.new ((w1.alloc (.cells #[.bool true, .bool true] 4)).alloc (.cells #[.int .u32 1] 58)) 58 #[.int .u32 2, .int .u32 3]).alloc (.cells #[.slice (some ⟨w1.heap.size + 1, 0, none⟩) 1 1, .slice (some ⟨w1.heap.size + 1 + 1, 0, none⟩) 2 2] 40)).alloc (.cells #[.int .u8 9] 5)).alloc (.cells #[.slice (some ⟨w1.heap.size, 0, none⟩) 2 2, .slice (some ⟨w1.heap.size + 1 + 1 + 1, 0, none⟩) 2 2, .slice none 0 0, .slice (some ⟨w1.heap.size + 1 + 1 + 1 + 1, 0, none⟩) 1 1] 42)
  have E3 := ((IsB.new (((w1.alloc (.cells #[.bool true, .bool true] 4)).alloc (.cells #[.int .u32 1] 58)).alloc (.cells #[.int .u32 2, .int .u32 3] 58)) 40 #[.slice (some ⟨w1.heap.size + 1, 0, none⟩) 1 1, .slice (some ⟨w1.heap.size + 1 + 1, 0, none⟩) 2 2]).alloc (.cells #[.int .u8 9] 5)).alloc (.cells #[.slice (some ⟨w1.heap.size, 0, none⟩) 2 2, .slice (some ⟨w1.heap.size + 1 + 1 + 1, 0, none⟩) 2 2, .slice none 0 0, .slice (some ⟨w1.heap.size + 1 + 1 + 1 + 1, 0, none⟩) 1 1] 42)
  have E4 := (IsB.new ((((w1.alloc (.cells #[.bool true, .bool true] 4)).alloc (.cells #[.int .u32 1] 58)).alloc (.cells #[.int .u32 2, .int .u32 3] 58)).alloc (.cells #[.slice (some ⟨w1.heap.size + 1, 0, none⟩) 1 1, .slice (some ⟨w1.heap.size + 1 + 1, 0, none⟩) 2 2] 40)) 5 #[.int .u8 9]).alloc (.cells #[.slice (some ⟨w1.heap.size, 0, none⟩) 2 2, .slice (some ⟨w1.heap.size + 1 + 1 + 1, 0, none⟩) 2 2, .slice none 0 0, .slice (some ⟨w1.heap.size + 1 + 1 + 1 + 1, 0, none⟩) 1 1] 42)
  have E5 := IsB.new (((((w1.alloc (.cells #[.bool true, .bool true] 4)).alloc (.cells #[.int .u32 1] 58)).alloc (.cells #[.int .u32 2, .int .u32 3] 58)).alloc (.cells #[.slice (some ⟨w1.heap.size + 1, 0, none⟩) 1 1, .slice (some ⟨w1.heap.size + 1 + 1, 0, none⟩) 2 2] 40)).alloc (.cells #[.int .u8 9] 5)) 42 #[.slice (some ⟨w1.heap.size, 0, none⟩) 2 2, .slice (some ⟨w1.heap.size + 1 + 1 + 1, 0, none⟩) 2 2, .slice none 0 0, .slice (some ⟨w1.heap.size + 1 + 1 + 1 + 1, 0, none⟩) 1 1]
  simp only [sz_al] at E1 E2 E3 E4 E5
  replace E0 := Lib.hid E0
  replace E1 := Lib.hid E1
  replace E2 := Lib.hid E2
  replace E3 := Lib.hid E3
  replace E4 := Lib.hid E4
  replace E5 := Lib.hid E5
  go_upto_region 3 with fail
  generalize (((((w1.alloc (.cells #[.bool true, .bool true] 4)).alloc (.cells #[.int .u32 1] 58)).alloc (.cells #[.int .u32 2, .int .u32 3] 58)).alloc (.cells #[.slice (some ⟨w1.heap.size + 1, 0, none⟩) 1 1, .slice (some ⟨w1.heap.size + 1 + 1, 0, none⟩) 2 2] 40)).alloc (.cells #[.int .u8 9] 5)).alloc (.cells #[.slice (some ⟨w1.heap.size, 0, none⟩) 2 2, .slice (some ⟨w1.heap.size + 1 + 1 + 1, 0, none⟩) 2 2, .slice none 0 0, .slice (some ⟨w1.heap.size + 1 + 1 + 1 + 1, 0, none⟩) 1 1] 42) = w2 at *
  obtain ⟨b_y, hb_y⟩ : ∃ b, b = w1.heap.size := ⟨_, rfl⟩
  have Lb_y := Lib.hid (show w1.heap.size ≤ b_y by rw [hb_y]; exact Nat.le_refl _)
  rw [← hb_y] at E0 E1 E2 E3 E4 E5 ⊢
  clear hb_y
  have GF := Lib.hid (gb_trans (gb_trans (gb_trans (gb_trans (gb_trans (gb_alloc w2 (.cells #[.bool true, .bool false] 4) none) (gb_alloc _ (.cells #[.int .u32 1] 58) none)) (gb_alloc _ (.cells #[.int .u32 0, .int .u32 0] 58) none)) (gb_alloc _ (.cells #[.slice (some ⟨w2.heap.size + 1, 0, none⟩) 1 1, .slice (some ⟨w2.heap.size + 1 + 1, 0, none⟩) 2 2] 40) none)) (gb_alloc _ (.cells #[.int .u8 9] 5) none)) (gb_alloc _ (.cells #[.slice (some ⟨w2.heap.size, 0, none⟩) 2 2, .slice (some ⟨w2.heap.size + 1 + 1 + 1, 0, none⟩) 2 2, .slice none 0 0, .slice (some ⟨w2.heap.size + 1 + 1 + 1 + 1, 0, none⟩) 1 1] 42) none))
  have F0 := (((((IsB.new w2 4 #[.bool true, .bool false]).alloc (.cells #[.int .u32 1] 58)).alloc (.cells #[.int .u32 0, .int .u32 0] 58)).alloc (.cells #[.slice (some ⟨w2.heap.size + 1, 0, none⟩) 1 1, .slice (some ⟨w2.heap.size + 1 + 1, 0, none⟩) 2 2] 40)).alloc (.cells #[.int .u8 9] 5)).alloc (.cells #[.slice (some ⟨w2.heap.size, 0, none⟩) 2 2, .slice (some ⟨w2.heap.size + 1 + 1 + 1, 0, none⟩) 2 2, .slice none 0 0, .slice (some ⟨w2.heap.size + 1 + 1 + 1 + 1, 0, none⟩) 1 1] 42)
  have F1 := ((((IsB.new (w2.alloc (.cells #[.bool true, .bool false] 4)) 58 #[.int .u32 1]).alloc (.cells #[.int .u32 0, .int .u32 0] 58)).alloc (.cells #[.slice (some ⟨w2.heap.size + 1, 0, none⟩) 1 1, .slice (some ⟨w2.heap.size + 1 + 1, 0, none⟩) 2 2] 40)).alloc (.cells #[.int .u8 9] 5)).alloc (.cells #[.slice (some ⟨w2.heap.size, 0, none⟩) 2 2, .slice (some ⟨w2.heap.size + 1 + 1 + 1, 0, none⟩) 2 2, .slice none 0 0, .slice (some ⟨w2.heap.size + 1 + 1 + 1 + 1, 0, none⟩) 1 1] 42)
  have F2 := (((IsB.new ((w2.alloc (.cells #[.bool true, .bool false] 4)).alloc (.cells #[.int .u32 1] 58)) 58 #[.int .u32 0, .int .u32 0]).alloc (.cells #[.slice (some ⟨w2.heap.size + 1, 0, none⟩) 1 1, .slice (some ⟨w2.heap.size + 1 + 1, 0, none⟩) 2 2] 40)).alloc (.cells #[.int .u8 9] 5)).alloc (.cells #[.slice (some ⟨w2.heap.size, 0, none⟩) 2 2, .slice (some ⟨w2.heap.size + 1 + 1 + 1, 0, none⟩) 2 2, .slice none 0 0, .slice (some ⟨w2.heap.size + 1 + 1 + 1 + 1, 0, none⟩) 1 1] 42)
  have F3 := ((IsB.new (((w2.alloc (.cells #[.bool true, .bool false] 4)).alloc (.cells #[.int .u32 1] 58)).alloc (.cells #[.int .u32 0, .int .u32 0] 58)) 40 #[.slice (some ⟨w2.heap.size + 1, 0, none⟩) 1 1, .slice (some ⟨w2.heap.size + 1 + 1, 0, none⟩) 2 2]).alloc (.cells #[.int .u8 9] 5)).alloc (.cells #[.slice (some ⟨w2.heap.size, 0, none⟩) 2 2, .slice (some ⟨w2.heap.size + 1 + 1 + 1, 0, none⟩) 2 2, .slice none 0 0, .slice (some ⟨w2.heap.size + 1 + 1 + 1 + 1, 0, none⟩) 1 1] 42)
  have F4 := (IsB.new ((((w2.alloc (.cells #[.bool true, .bool false] 4)).alloc (.cells #[.int .u32 1] 58)).alloc (.cells #[.int .u32 0, .int .u32 0] 58)).alloc (.cells #[.slice (some ⟨w2.heap.size + 1, 0, none⟩) 1 1, .slice (some ⟨w2.heap.size + 1 + 1, 0, none⟩) 2 2] 40)) 5 #[.int .u8 9]).alloc (.cells #[.slice (some ⟨w2.heap.size, 0, none⟩) 2 2, .slice (some ⟨w2.heap.size + 1 + 1 + 1, 0, none⟩) 2 2, .slice none 0 0, .slice (some ⟨w2.heap.size + 1 + 1 + 1 + 1, 0, none⟩) 1 1] 42)
  have F5 := IsB.new (((((w2.alloc (.cells #[.bool true, .bool false] 4)).alloc (.cells #[.int .u32 1] 58)).alloc (.cells #[.int .u32 0, .int .u32 0] 58)).alloc (.cells #[.slice (some ⟨w2.heap.size + 1, 0, none⟩) 1 1, .slice (some ⟨w2.heap.size + 1 + 1, 0, none⟩) 2 2] 40)).alloc (.cells #[.int .u8 9] 5)) 42 #[.slice (some ⟨w2.heap.size, 0, none⟩) 2 2, .slice (some ⟨w2.heap.size + 1 + 1 + 1, 0, none⟩) 2 2, .slice none 0 0, .slice (some ⟨w2.heap.size + 1 + 1 + 1 + 1, 0, none⟩) 1 1]
  simp only [sz_al] at F1 F2 F3 F4 F5
  replace F0 := Lib.hid F0
  replace F1 := Lib.hid F1
  replace F2 := Lib.hid F2
  replace F3 := Lib.hid F3
  replace F4 := Lib.hid F4
  replace F5 := Lib.hid F5
  go_upto_region 4 with fail
  generalize (((((w2.alloc (.cells #[.bool true, .bool false] 4)).alloc (.cells #[.int .u32 1] 58)).alloc (.cells #[.int .u32 0, .int .u32 0] 58)).alloc (.cells #[.slice (some ⟨w2.heap.size + 1, 0, none⟩) 1 1, .slice (some ⟨w2.heap.size + 1 + 1, 0, none⟩) 2 2] 40)).alloc (.cells #[.int .u8 9] 5)).alloc (.cells #[.slice (some ⟨w2.heap.size, 0, none⟩) 2 2, .slice (some ⟨w2.heap.size + 1 + 1 + 1, 0, none⟩) 2 2, .slice none 0 0, .slice (some ⟨w2.heap.size + 1 + 1 + 1 + 1, 0, none⟩) 1 1] 42) = w3 at *
  obtain ⟨bz, hbz⟩ : ∃ b, b = w2.heap.size := ⟨_, rfl⟩
  have Lbz := Lib.hid (show w2.heap.size ≤ bz by rw [hbz]; exact Nat.le_refl _)
  rw [← hbz] at F0 F1 F2 F3 F4 F5 ⊢
  clear hbz
  have GQ := Lib.hid (gb_trans (gb_alloc w3 (.cells #[.string ⟨#[]⟩, .slice (some ⟨bx + 1 + 1, 0, none⟩) 2 2, .slice none 0 0, .slice none 0 0, .slice none 0 0, .slice none 0 0, .slice none 0 0, .slice none 0 0, .slice (some ⟨w3.heap.size + 1, 0, none⟩) 2 2] 31) none) (gb_alloc _ (.cells #[.int .i64 1, .int .i64 1] 3) none))
  have Q0 := (IsB.new w3 31 #[.string ⟨#[]⟩, .slice (some ⟨bx + 1 + 1, 0, none⟩) 2 2, .slice none 0 0, .slice none 0 0, .slice none 0 0, .slice none 0 0, .slice none 0 0, .slice none 0 0, .slice (some ⟨w3.heap.size + 1, 0, none⟩) 2 2]).alloc (.cells #[.int .i64 1, .int .i64 1] 3)
  have Q1 := IsB.new (w3.alloc (.cells #[.string ⟨#[]⟩, .slice (some ⟨bx + 1 + 1, 0, none⟩) 2 2, .slice none 0 0, .slice none 0 0, .slice none 0 0, .slice none 0 0, .slice none 0 0, .slice none 0 0, .slice (some ⟨w3.heap.size + 1, 0, none⟩) 2 2] 31)) 3 #[.int .i64 1, .int .i64 1]
  simp only [sz_al] at Q1
  replace Q0 := Lib.hid Q0
  replace Q1 := Lib.hid Q1
  have GAF := Lib.hid (gb_trans GE.out GF.out)
  have c0 := (A4.out.keep0 GAF.out).cell 0
  have c1 := (A4.out.keep0 GAF.out).cell 1
  have c2 := (A4.out.keep0 GAF.out).cell 2
  have c3 := (A4.out.keep0 GAF.out).cell 3
  have c4 := (A4.out.keep0 GAF.out).cell 4
  have c5 := (A4.out.keep0 GAF.out).cell 5
  have c6 := (A4.out.keep0 GAF.out).cell 6
  have c7 := (A4.out.keep0 GAF.out).cell 7
  have c8 := (A4.out.keep0 GAF.out).cell 8
  dsimp at c0 c1 c2 c3 c4 c5 c6 c7 c8
  go_upto_region 6 with fail
  generalize (w3.alloc (.cells #[.string ⟨#[]⟩, .slice (some ⟨bx + 1 + 1, 0, none⟩) 2 2, .slice none 0 0, .slice none 0 0, .slice none 0 0, .slice none 0 0, .slice none 0 0, .slice none 0 0, .slice (some ⟨w3.heap.size + 1, 0, none⟩) 2 2] 31)).alloc (.cells #[.int .i64 1, .int .i64 1] 3) = w4 at *
  obtain ⟨bq, hbq⟩ : ∃ b, b = w3.heap.size := ⟨_, rfl⟩
  have Lbq := Lib.hid (show w3.heap.size ≤ bq by rw [hbq]; exact Nat.le_refl _)
  rw [← hbq] at Q0 Q1 ⊢
  clear hbq
  clear c0 c1 c2 c3 c4 c5 c6 c7 c8
  have H1 := Lib.hid (show SH w4 (some ⟨bx + 1 + 1, 0, none⟩) 2 2 hA from (sh_2 A2.out (sf_1 A0.out) (sf_2 A1.out)).keep0 (gb_trans GAF.out GQ.out))
  have D1 := Lib.hid (show SI w4 (some ⟨bx + 1 + 1 + 1, 0, none⟩) 2 2 [1, 0] from (si_2 A3.out (by decide)).keep0 (gb_trans GAF.out GQ.out))
  have D2 := Lib.hid (show SI w4 (some ⟨bq + 1, 0, none⟩) 2 2 [1, 1] from si_2 Q1.out (by decide))
  have X1 := Lib.hid (show ER w4 ⟨(some ⟨b_y, 0, none⟩), (some ⟨b_y + 1 + 1 + 1, 0, none⟩), none, (some ⟨b_y + 1 + 1 + 1 + 1, 0, none⟩), 2, 2, 2, 2, 0, 0, 1, 1⟩ eA from (⟨sb_2 E0.out, sr_2 E3.out (su_1 E1.out (by decide)) (su_2 E2.out (by decide)), su_nil _, sy_1 E4.out (by decide)⟩ : ER w2 _ eA).keep0 (gb_trans GF.out GQ.out))
  have X2 := Lib.hid (show ER w4 ⟨(some ⟨bz, 0, none⟩), (some ⟨bz + 1 + 1 + 1, 0, none⟩), none, (some ⟨bz + 1 + 1 + 1 + 1, 0, none⟩), 2, 2, 2, 2, 0, 0, 1, 1⟩ eB from (⟨sb_2 F0.out, sr_2 F3.out (su_1 F1.out (by decide)) (su_2 F2.out (by decide)), su_nil _, sy_1 F4.out (by decide)⟩ : ER w3 _ eB).keep0 GQ.out)
  have PB := Lib.hid (A4.out.keep0 (gb_trans GAF.out GQ.out))
  have EB := Lib.hid (E5.out.keep0 (gb_trans GF.out GQ.out))
  have FB := Lib.hid (F5.out.keep0 GQ.out)
  have G0 := Lib.hid (gb_trans GA.out (gb_trans GAF.out GQ.out))
  clear A0 A1 A2 A3 A4 E0 E1 E2 E3 E4 E5 F0 F1 F2 F3 F4 F5 GA GE GF GAF GQ Q1
  have K1 := Lib.hid (fun (W : World) (q : w4.grownBy W none) => dcheck_any W (.string ⟨#[]⟩) (.slice none 0 0) (.slice none 0 0) (.slice none 0 0) (.slice none 0 0) (.slice none 0 0) (some ⟨bx + 1 + 1, 0, none⟩) none (some ⟨bq + 1, 0, none⟩) 2 2 0 0 2 2 [1, 1] (D2.out.keep0 q) 1 7 dc_B)
  have K2 := Lib.hid (fun (W : World) (q : w4.grownBy W none) => dcheck_any W (.string ⟨#[]⟩) (.slice none 0 0) (.slice none 0 0) (.slice none 0 0) (.slice none 0 0) (.slice none 0 0) (some ⟨bx + 1 + 1, 0, none⟩) none (some ⟨bx + 1 + 1 + 1, 0, none⟩) 2 2 0 0 2 2 [1, 0] (D1.out.keep0 q) 0 0 dc_A2)
  have K3 := Lib.hid (fun (W : World) (q : w4.grownBy W none) => demit_any W (.string ⟨#[]⟩) (.slice none 0 0) (.slice none 0 0) (.slice none 0 0) (.slice none 0 0) (.slice none 0 0) (some ⟨bx + 1 + 1, 0, none⟩) none (some ⟨bx + 1 + 1 + 1, 0, none⟩) 2 2 0 0 2 2 (some ⟨b_y, 0, none⟩) (some ⟨b_y + 1 + 1 + 1, 0, none⟩) none (some ⟨b_y + 1 + 1 + 1 + 1, 0, none⟩) 2 2 2 2 0 0 1 1 hA [] [1, 0] eA (H1.out.keep0 q) (sf_nil _) (D1.out.keep0 q) (X1.out.keep0 q) (pz_A _ _ _ _ (.inl rfl) _) [35, 1, 9] em_A)
  have K4 := Lib.hid (fun (W : World) (q : w4.grownBy W none) => demit_any W (.string ⟨#[]⟩) (.slice none 0 0) (.slice none 0 0) (.slice none 0 0) (.slice none 0 0) (.slice none 0 0) (some ⟨bx + 1 + 1, 0, none⟩) none (some ⟨bx + 1 + 1 + 1, 0, none⟩) 2 2 0 0 2 2 (some ⟨bz, 0, none⟩) (some ⟨bz + 1 + 1 + 1, 0, none⟩) none (some ⟨bz + 1 + 1 + 1 + 1, 0, none⟩) 2 2 2 2 0 0 1 1 hA [] [1, 0] eB (H1.out.keep0 q) (sf_nil _) (D1.out.keep0 q) (X2.out.keep0 q) (pz_A _ _ _ _ (.inr rfl) _) [1, 9] em_B)
  have K5 := Lib.hid (fun (W : World) (q : w4.grownBy W none) => dsize_any W (.string ⟨#[]⟩) (.slice none 0 0) (.slice none 0 0) (.slice none 0 0) (.slice none 0 0) (.slice none 0 0) (some ⟨bx + 1 + 1, 0, none⟩) none (some ⟨bx + 1 + 1 + 1, 0, none⟩) 2 2 0 0 2 2 (some ⟨b_y, 0, none⟩) (some ⟨b_y + 1 + 1 + 1, 0, none⟩) none (some ⟨b_y + 1 + 1 + 1 + 1, 0, none⟩) 2 2 2 2 0 0 1 1 hA [] [1, 0] eA (H1.out.keep0 q) (sf_nil _) (D1.out.keep0 q) (X1.out.keep0 q) (pz_A _ _ _ _ (.inl rfl) _) [35, 1, 9] em_A)
  unfold RetV at K1 K2 K5
  clear H1 D1 D2 X1 X2
  have c0 := (Q0.out.keep0 (gb_refl _ _)).cell 0
  have c1 := (Q0.out.keep0 (gb_refl _ _)).cell 1
  have c2 := (Q0.out.keep0 (gb_refl _ _)).cell 2
  have c3 := (Q0.out.keep0 (gb_refl _ _)).cell 3
  have c4 := (Q0.out.keep0 (gb_refl _ _)).cell 4
  have c5 := (Q0.out.keep0 (gb_refl _ _)).cell 5
  have c6 := (Q0.out.keep0 (gb_refl _ _)).cell 6
  have c7 := (Q0.out.keep0 (gb_refl _ _)).cell 7
  have c8 := (Q0.out.keep0 (gb_refl _ _)).cell 8
  dsimp at c0 c1 c2 c3 c4 c5 c6 c7 c8
  go_upto_region 7 with (go_at_call 32; refine (K1.out _ (gb_refl _ _)).mono ?_; clear K1; rintro e9 w5 ⟨rfl, g⟩; have G5 := Lib.hid g; clear g)
  clear c0 c1 c2 c3 c4 c5 c6 c7 c8
  have c0 := (PB.out.keep0 G5.out).cell 0
  have c1 := (PB.out.keep0 G5.out).cell 1
  have c2 := (PB.out.keep0 G5.out).cell 2
  have c3 := (PB.out.keep0 G5.out).cell 3
  have c4 := (PB.out.keep0 G5.out).cell 4
  have c5 := (PB.out.keep0 G5.out).cell 5
  have c6 := (PB.out.keep0 G5.out).cell 6
  have c7 := (PB.out.keep0 G5.out).cell 7
  have c8 := (PB.out.keep0 G5.out).cell 8
  dsimp at c0 c1 c2 c3 c4 c5 c6 c7 c8
  go_upto_region 8 with (go_at_call 32; refine (K2.out _ G5.out).mono ?_; clear K2; rintro e9 w6 ⟨rfl, g⟩; have G6 := Lib.hid (gb_trans G5.out g); clear g)
  clear c0 c1 c2 c3 c4 c5 c6 c7 c8
  have c0 := (PB.out.keep0 G6.out).cell 0
  have c1 := (PB.out.keep0 G6.out).cell 1
  have c2 := (PB.out.keep0 G6.out).cell 2
  have c3 := (PB.out.keep0 G6.out).cell 3
  have c4 := (PB.out.keep0 G6.out).cell 4
  have c5 := (PB.out.keep0 G6.out).cell 5
  have c6 := (PB.out.keep0 G6.out).cell 6
  have c7 := (PB.out.keep0 G6.out).cell 7
  have c8 := (PB.out.keep0 G6.out).cell 8
  dsimp at c0 c1 c2 c3 c4 c5 c6 c7 c8
  have x0 := (EB.out.keep0 G6.out).cell 0
  have x1 := (EB.out.keep0 G6.out).cell 1
  have x2 := (EB.out.keep0 G6.out).cell 2
  have x3 := (EB.out.keep0 G6.out).cell 3
  dsimp at x0 x1 x2 x3
  go_wp2_with fail
  refine (K3.out _ G6.out).mono ?_
  rintro e9 w7 ⟨V7, rfl, o, g⟩
  have G7 := Lib.hid (gb_trans G6.out g)
  obtain ⟨a7, k7, rfl⟩ := own_shape o
  have cv := conv_str w7 a7 3 k7 [35, 1, 9] (own_slr o)
  rw [show strOf [35, 1, 9] = ⟨#[35, 1, 9]⟩ from rfl] at cv
  have sq : ((⟨#[35, 1, 9]⟩ : ByteArray).toList == (⟨#[35, 1, 9]⟩ : ByteArray).toList) = true := by simp
  clear g o
  clear c0 c1 c2 c3 c4 c5 c6 c7 c8 x0 x1 x2 x3
  have c0 := (PB.out.keep0 G7.out).cell 0
  have c1 := (PB.out.keep0 G7.out).cell 1
  have c2 := (PB.out.keep0 G7.out).cell 2
  have c3 := (PB.out.keep0 G7.out).cell 3
  have c4 := (PB.out.keep0 G7.out).cell 4
  have c5 := (PB.out.keep0 G7.out).cell 5
  have c6 := (PB.out.keep0 G7.out).cell 6
  have c7 := (PB.out.keep0 G7.out).cell 7
  have c8 := (PB.out.keep0 G7.out).cell 8
  dsimp at c0 c1 c2 c3 c4 c5 c6 c7 c8
  have x0 := (FB.out.keep0 G7.out).cell 0
  have x1 := (FB.out.keep0 G7.out).cell 1
  have x2 := (FB.out.keep0 G7.out).cell 2
  have x3 := (FB.out.keep0 G7.out).cell 3
  dsimp at x0 x1 x2 x3
  go_wp2_with fail
  refine (K4.out _ G7.out).mono ?_
  rintro e9 w8 ⟨V8, rfl, o, g⟩
  have G8 := Lib.hid (gb_trans G7.out g)
  obtain ⟨a8, k8, rfl⟩ := own_shape o
  have cv2 := conv_str w8 a8 2 k8 [1, 9] (own_slr o)
  rw [show strOf [1, 9] = ⟨#[1, 9]⟩ from rfl] at cv2
  have sq2 : ((⟨#[1, 9]⟩ : ByteArray).toList == (⟨#[1, 9]⟩ : ByteArray).toList) = true := by simp
  clear g o cv sq
  clear c0 c1 c2 c3 c4 c5 c6 c7 c8 x0 x1 x2 x3
  have c0 := (PB.out.keep0 G8.out).cell 0
  have c1 := (PB.out.keep0 G8.out).cell 1
  have c2 := (PB.out.keep0 G8.out).cell 2
  have c3 := (PB.out.keep0 G8.out).cell 3
  have c4 := (PB.out.keep0 G8.out).cell 4
  have c5 := (PB.out.keep0 G8.out).cell 5
  have c6 := (PB.out.keep0 G8.out).cell 6
  have c7 := (PB.out.keep0 G8.out).cell 7
  have c8 := (PB.out.keep0 G8.out).cell 8
  dsimp at c0 c1 c2 c3 c4 c5 c6 c7 c8
  have x0 := (EB.out.keep0 G8.out).cell 0
  have x1 := (EB.out.keep0 G8.out).cell 1
  have x2 := (EB.out.keep0 G8.out).cell 2
  have x3 := (EB.out.keep0 G8.out).cell 3
  dsimp at x0 x1 x2 x3
  go_wp2_with fail
  refine (K5.out _ G8.out).mono ?_
  rintro e9 w9 ⟨rfl, g⟩
  have G9 := Lib.hid (gb_trans G8.out g)
  clear g
  go_wp2
  go_ret
  exact ⟨rfl, gb_trans G0.out G9.out⟩
end Go.Proofs.Ytglgjkggjpfahaa
