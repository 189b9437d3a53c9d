/- The walks of patchbayref02's reader, second part; and bitio's Rest of nothing; no condition but sizes. -/
import Derived.Test.YtgknooblnpmloaaIoRa
namespace Go.Proofs.Ytgknooblnpmloaa
open Go.RowKit
set_option linter.unusedVariables false

theorem rread_width (w : World) (a : Option Addr) (c len pos : Nat) (n : Int) (hv : okW n = false) :
    Calls Try.prog 19 #[.agg #[.slice a len c, .int .i64 pos], .int .i64 n] w (RdV a len c pos 0 10 w) := by
  have hwv := rwid_any n
  rw [hv] at hwv
  have HWV := Lib.hid hwv
  clear hwv hv
  go_enter Try.func19, Try.ntmps19
  go_wp2_with (go_at_call 44; refine (HWV.out _).mono ?_; rintro e w' ⟨rfl, rfl⟩)
  refine bodyPost_ret (v := .tuple #[.agg #[.slice a len c, .int .i64 pos], .int .u32 0, .int .i64 10]) (by simp [results, Try.results19, go_sem]) rfl ⟨rfl, gb_trans (gb_alloc _ _ _) (gb_alloc _ _ _)⟩
theorem rread_short (w : World) (a : Option Addr) (c len pos : Nat) (n : Int) (hn : len ≤ 60000) (h1 : 1 ≤ n) (h2 : n ≤ 32) (hq : pos ≤ 8 * len) (hp : 8 * (len : Int) < pos + n) :
    Calls Try.prog 19 #[.agg #[.slice a len c, .int .i64 pos], .int .i64 n] w (RdV a len c pos 0 3 w) := by
  have hwv := rwid_any n
  rw [show okW n = true by simp [okW, h1, h2]] at hwv
  have HWV := Lib.hid hwv
  clear hwv
  have hle : 8 * (len : Int) - pos < n := by omega
  have nb1 := IsB.new w 37 #[.slice a len c, .int .i64 pos]
  have hsz : (w.alloc (.cells #[.slice a len c, .int .i64 pos] 37)).heap.size = w.heap.size + 1 := by simp
  have nb2 := IsB.new (w.alloc (.cells #[.slice a len c, .int .i64 pos] 37)) 37 #[.slice none 0 0, .int .i64 0]
  rw [hsz] at nb2
  have NB1 := Lib.hid (nb1.alloc (.cells #[.slice none 0 0, .int .i64 0] 37))
  have NB2 := Lib.hid nb2
  clear nb1 nb2 hsz
  go_enter Try.func19, Try.ntmps19
  go_wp2_with fail
  refine (HWV.out _).mono ?_
  rintro e w1 ⟨rfl, rfl⟩
  go_wp2_with fail
  refine (rrem_any _ _ _ _ _ hn (by omega)).mono ?_
  rintro e w2 ⟨rfl, g, _⟩
  have N1 := Lib.hid (NB1.out.keep0 g)
  have N2 := Lib.hid (NB2.out.keep0 g)
  have G := Lib.hid (show w.grownBy w2 none from gb_trans (gb_trans (gb_alloc _ _ _) (gb_alloc _ _ _)) g)
  have c0 : w2.cell? ⟨w.heap.size, 0, none⟩ = some (.slice a len c) := N1.out.cell 0
  have c1 : w2.cell? ⟨w.heap.size, 1, none⟩ = some (.int .i64 pos) := N1.out.cell 1
  have d0 : w2.cell? ⟨w.heap.size + 1, 0, none⟩ = some (.slice none 0 0) := N2.out.cell 0
  have d1 : w2.cell? ⟨w.heap.size + 1, 1, none⟩ = some (.int .i64 0) := N2.out.cell 1
  have f0 := N2.out.free 0
  have f1 := N2.out.free 1
  clear g NB1 NB2
  go_wp2
  have N3 := (N2.out.set 0 (.slice a len c)).set 1 (.int .i64 pos)
  have e0 := N3.cell 0
  have e1 := N3.cell 1
  simp at e0 e1
  refine bodyPost_ret (v := .tuple #[.agg #[.slice a len c, .int .i64 pos], .int .u32 0, .int .i64 3]) (by simp [results, Try.results19, go_sem, e0, e1]) rfl ⟨rfl, gb_set2 G.out (by omega)⟩
theorem rread_any (w : World) (base : Nat) (a : Option Addr) (c : Nat) (bs : List Int) (pos : Nat) (n : Int) (h : w.ownsRow base 5 1 (.slice a bs.length c) bs.length (bs.map (Value.int .u8))) (hb : ∀ b ∈ bs, 0 ≤ b ∧ b ≤ 255) (hn : bs.length ≤ 60000)
    (hp : pos ≤ 8 * bs.length) (er v : Int) (pos2 : Nat) (hq : rdStep bs pos n = (er, v, pos2)) :
    Calls Try.prog 19 #[.agg #[.slice a bs.length c, .int .i64 pos], .int .i64 n] w (RdV a bs.length c pos2 v er w) := by
  unfold rdStep at hq
  by_cases hv : okW n = true
  · rw [if_pos hv] at hq
    have h2 : 1 ≤ n ∧ n ≤ 32 := of_decide_eq_true hv
    by_cases hf : (pos : Int) + n ≤ 8 * bs.length
    · rw [if_pos hf] at hq
      simp only [Prod.mk.injEq] at hq
      obtain ⟨rfl, rfl, rfl⟩ := hq
      exact rread_ok w base a c bs pos n h hb hn h2.1 h2.2 hf
    · rw [if_neg hf] at hq
      simp only [Prod.mk.injEq] at hq
      obtain ⟨rfl, rfl, rfl⟩ := hq
      exact rread_short w a c bs.length pos n hn h2.1 h2.2 hp (by omega)
  · rw [if_neg hv] at hq
    simp only [Prod.mk.injEq] at hq
    obtain ⟨rfl, rfl, rfl⟩ := hq
    exact rread_width w a c bs.length pos n (by simpa using hv)

end Go.Proofs.Ytgknooblnpmloaa
