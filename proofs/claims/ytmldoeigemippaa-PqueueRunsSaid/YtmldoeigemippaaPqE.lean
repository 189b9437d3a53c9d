/- The queue: its state in memory; New, Len, Peek, Push, Pop. -/
import Derived.Test.YtmldoeigemippaaPqN
namespace Go.Proofs.Ytmldoeigemippaa
open Go.RowKit
set_option linter.unusedVariables false

def RetS (v : Value) (w : World) (e : Ending) (w' : World) : Prop := e = .returned v ∧ w' = w
/-- A queue that New made. -/
structure QS (W : World) (q s : Nat) (cap p : Int) (V : Value) (E : Int → Int) (H : List Int) (w : World) : Prop where
  qv : IsB w q 56 #[.pointer (some ⟨s, 0, none⟩)]
  hq : HQ W s 2 62 #[.int .i64 cap, .int .u64 p, V] W.heap.size V E H w
  lowq : W.heap.size ≤ q
theorem HQ.keep0 {W : World} {hb o : Nat} {t : TypeId} {cs : Array Value} {base : Nat} {V : Value} {E : Int → Int} {H : List Int} {w w2 : World} (h : HQ W hb o t cs base V E H w) (k : w.grownBy w2 none) : HQ W hb o t cs base V E H w2 :=
  ⟨h.var.keep0 k, h.at_, h.row.keep0 k, gb_trans h.grown k, h.lowv, h.lowr⟩
theorem QS.keep0 {W : World} {q s : Nat} {cap p : Int} {V : Value} {E : Int → Int} {H : List Int} {w w2 : World} (h : QS W q s cap p V E H w) (k : w.grownBy w2 none) : QS W q s cap p V E H w2 := ⟨h.qv.keep0 k, h.hq.keep0 k, h.lowq⟩
theorem QS.ne {W : World} {q s : Nat} {cap p : Int} {V : Value} {E : Int → Int} {H : List Int} {w : World} (h : QS W q s cap p V E H w) : q ≠ s := IsB.ne h.qv h.hq.var (by decide)
theorem QS.row_ne {W : World} {q s : Nat} {cap p : Int} {V : Value} {E : Int → Int} {H : List Int} {w : World} (h : QS W q s cap p V E H w) : V.ownBlock ≠ some q := own_ne h.hq.row h.qv (by decide)
theorem Fr.isb {w w2 : World} {hb g : Nat} {r : Option Nat} {t : TypeId} {cs : Array Value} (h : Fr w w2 hb r) (k : IsB w g t cs) (h1 : g ≠ hb) (h2 : r ≠ some g) : IsB w2 g t cs := (h.block g k.lt h1 h2).trans k
set_option maxRecDepth 100000 in
theorem made_yes (w : World) (q s : Nat) (h : IsB w q 56 #[.pointer (some ⟨s, 0, none⟩)]) : Calls Try.prog 20 #[.pointer (some ⟨q, 0, none⟩)] w (RetS (.bool true) w) := by
  have c0 : w.cell? ⟨q, 0, none⟩ = some (.pointer (some ⟨s, 0, none⟩)) := h.cell 0
  go_enter Try.func20, Try.ntmps20
  go_wp2
  go_ret
  exact ⟨rfl, rfl⟩
set_option maxRecDepth 100000 in
theorem made_zq (w : World) (q : Nat) (h : IsB w q 56 #[.pointer none]) : Calls Try.prog 20 #[.pointer (some ⟨q, 0, none⟩)] w (RetS (.bool false) w) := by
  have c0 : w.cell? ⟨q, 0, none⟩ = some (.pointer none) := h.cell 0
  go_enter Try.func20, Try.ntmps20
  go_wp2
  go_ret
  exact ⟨rfl, rfl⟩
set_option maxRecDepth 100000 in
theorem made_nil (w : World) : Calls Try.prog 20 #[.pointer none] w (RetS (.bool false) w) := by
  go_enter Try.func20, Try.ntmps20
  go_wp2
  go_ret
  exact ⟨rfl, rfl⟩
set_option maxRecDepth 100000 in
theorem new_bad (w : World) (n : Int) (h : n < 0 ∨ 4096 < n) : Calls Try.prog 8 #[.int .i64 n] w (RetS (.tuple #[.pointer none, .int .i64 9]) w) := by
  by_cases h1 : n < 0
  · go_enter Try.func8, Try.ntmps8
    go_wp2
    go_ret2
    exact ⟨rfl, rfl⟩
  · have h2 : 4096 < n := by omega
    clear h
    go_enter Try.func8, Try.ntmps8
    go_wp2
    go_ret2
    exact ⟨rfl, rfl⟩
set_option maxRecDepth 100000 in
theorem new_good (w : World) (n : Int) (h0 : 0 ≤ n) (h4 : n ≤ 4096) : Calls Try.prog 8 #[.int .i64 n] w (fun e w' => e = .returned (.tuple #[.pointer (some ⟨w.heap.size + 1, 0, none⟩), .int .i64 0]) ∧ w' = (w.alloc (.cells #[.int .i64 n, .int .u64 0, .slice none 0 0] 62)).alloc (.cells #[.pointer (some ⟨w.heap.size, 0, none⟩)] 56)) := by
  have h1 : ¬ n < 0 := by omega
  have h2 : ¬ 4096 < n := by omega
  go_enter Try.func8, Try.ntmps8
  go_wp2
  go_ret2
  exact ⟨rfl, rfl⟩
theorem QS.new (W w : World) (E : Int → Int) (n : Int) (h : W.grownBy w none) : QS W (w.heap.size + 1) w.heap.size n 0 (.slice none 0 0) E [] ((w.alloc (.cells #[.int .i64 n, .int .u64 0, .slice none 0 0] 62)).alloc (.cells #[.pointer (some ⟨w.heap.size, 0, none⟩)] 56)) :=
  ⟨isb_last _ _ _ _, ⟨new_old _ _ _ _, rfl, PL.nil _ _ _, gb_trans h (gb_trans (gb_alloc _ _ none) (gb_alloc _ _ none)), h.size, Nat.le_refl _⟩, Nat.le_succ_of_le h.size⟩
set_option maxRecDepth 100000 in
theorem len_any (W w : World) (q s : Nat) (cap p : Int) (V : Value) (E : Int → Int) (H : List Int) (h : QS W q s cap p V E H w) : Calls Try.prog 19 #[.pointer (some ⟨q, 0, none⟩)] w (RetS (.int .i64 H.length) w) := by
  obtain ⟨a, c, rfl⟩ := h.hq.row.shape
  have MD := Lib.hid (made_yes w q s h.qv)
  have c0 : w.cell? ⟨q, 0, none⟩ = some (.pointer (some ⟨s, 0, none⟩)) := h.qv.cell 0
  have c2 : w.cell? ⟨s, 2, none⟩ = some (.slice a H.length c) := h.hq.var.cell 2
  clear h
  go_enter Try.func19, Try.ntmps19
  go_wp2_with fail
  refine MD.out.mono ?_
  rintro e w1 ⟨rfl, rfl⟩
  go_wp2
  go_ret
  exact ⟨rfl, rfl⟩
set_option maxRecDepth 100000 in
theorem len_no (w : World) (v : Value) (h : Calls Try.prog 20 #[v] w (RetS (.bool false) w)) : Calls Try.prog 19 #[v] w (RetS (.int .i64 0) w) := by
  have MD := Lib.hid h
  clear h
  go_enter Try.func19, Try.ntmps19
  go_wp2_with fail
  refine MD.out.mono ?_
  rintro e w1 ⟨rfl, rfl⟩
  go_wp2
  go_ret
  exact ⟨rfl, rfl⟩
theorem results3 {fn : Func} {s t u : Tmp} (h : fn.results = #[.tmp s, .tmp t, .tmp u]) (tmps : Array Value) (P : Program) (w : World) : (results fn tmps).run P w = .ok (.tuple #[tmps.getD s undef, tmps.getD t undef, tmps.getD u undef]) w := by
  simp [results, h]
set_option maxRecDepth 100000 in
theorem peek_none (w : World) (v : Value) (h : Calls Try.prog 19 #[v] w (RetS (.int .i64 0) w)) : Calls Try.prog 15 #[v] w (RetV (.tuple #[.int .i64 0, .int .i64 0, .bool false]) w) := by
  have MD := Lib.hid h
  clear h
  go_enter Try.func15, Try.ntmps15
  go_wp2_with fail
  refine MD.out.mono ?_
  rintro e w1 ⟨rfl, rfl⟩
  go_wp2
  (try simp only [Exit.inBlock, Exit.then])
  refine bodyPost_ret (v := .tuple #[.int .i64 0, .int .i64 0, .bool false]) (by rw [results3 rfl]; rfl) rfl ⟨rfl, World.grownBy.refl _ _⟩
set_option maxRecDepth 100000 in
theorem peek_some (W w : World) (q s : Nat) (cap p : Int) (V : Value) (E : Int → Int) (H : List Int) (h : QS W q s cap p V E H w) (h1 : 0 < H.length) : Calls Try.prog 15 #[.pointer (some ⟨q, 0, none⟩)] w (RetV (.tuple #[.int .i64 (kC (H.getD 0 0)), .int .i64 (E (tC (H.getD 0 0))), .bool true]) w) := by
  obtain ⟨b, c, rfl⟩ := h.hq.row.headn (n := H.length) rfl h1
  have LE := Lib.hid (len_any W w q s cap p _ E H h)
  have c0 : w.cell? ⟨q, 0, none⟩ = some (.pointer (some ⟨s, 0, none⟩)) := h.qv.cell 0
  have c2 : w.cell? ⟨s, 2, none⟩ = some (.slice (some ⟨b, 0, none⟩) H.length c) := h.hq.var.cell 2
  obtain ⟨x0, x1, x2⟩ := h.hq.row.at_ rfl 0 h1
  simp only [Nat.zero_mul, Nat.zero_add] at x0 x1 x2
  generalize H.getD 0 0 = x at *
  have i0 : (0 : Int) < H.length := by omega
  have i1 : ((H.length : Int) == 0) = false := by rw [beq_eq_false_iff_ne]; omega
  have i2 : ¬ (H.length : Int) = 0 := by omega
  clear h
  go_enter Try.func15, Try.ntmps15
  go_wp2_with fail
  refine LE.out.mono ?_
  rintro e w1 ⟨rfl, rfl⟩
  go_wp2
  go_quiet (fail)
  go_wp2
  (try simp only [Exit.inBlock, Exit.then])
  refine bodyPost_ret (v := .tuple #[.int .i64 (kC x), .int .i64 (E (tC x)), .bool true]) (by rw [results3 rfl]; rfl) rfl ⟨rfl, gb_trans (gb_alloc _ _ none) (gb_drewN _ _ _)⟩
end Go.Proofs.Ytmldoeigemippaa
