/- What the functions of package bitvec do: their walks, first part; no condition. -/
import Derived.Test.YtfjeonoihdgdoaaProg
import Derived.Test.YtfjeonoihdgdoaaMem
import Derived.WalkKit
import Derived.Outline
import Derived.Lib.Hide
namespace Go.Proofs.Ytfjeonoihdgdoaa
open Go.RowKit

/-- The call returns v; the world has at most new blocks. -/
def Ret (v : Value) (W : World) (e : Ending) (w' : World) : Prop := e = .returned v ∧ Gr W w'
theorem below_ret {P : Program} {n : FuncId} {args : Array Value} {v : Value} {W : World} (h : Calls P n args W (Ret v W)) : Calls P n args W fun e w' => e = .returned v ∧ Below W.heap.size W w' :=
  h.mono fun _ _ k => ⟨k.1, k.2.below⟩
theorem Ret.mk' {v : Value} {W : World} {e : Ending} {w' : World} (h : e = .returned v) (g : Gr W w') : Ret v W e w' := ⟨h, g⟩

theorem valid_no (ws : List Int) (k : Nat) (x : Int) (hk : k < ws.length) (hx : ws.getD k 0 = x) (h : ¬ (1 ≤ x ∧ x ≤ 32)) : ws.all okW = false := by
  rw [List.all_eq_false]
  refine ⟨ws[k], List.getElem_mem hk, ?_⟩
  have e : ws[k] = x := by rw [← hx]; simp [hk]
  rw [e]; simp [okW]; omega
theorem valid_step (ws : List Int) (k : Nat) (x : Int) (hx : ws.getD k 0 = x) (h : 1 ≤ x ∧ x ≤ 32) (ha : ∀ j : Nat, j < k → okW (ws.getD j 0) = true) :
    ∀ j : Nat, j < k + 1 → okW (ws.getD j 0) = true := by
  intro j hj
  by_cases e : j = k
  · rw [e, hx]; simp [okW, h]
  · exact ha j (by omega)
theorem valid_yes (ws : List Int) (k : Nat) (hk : ws.length ≤ k) (ha : ∀ j : Nat, j < k → okW (ws.getD j 0) = true) : ws.all okW = true := by
  rw [List.all_eq_true]
  intro x hx
  obtain ⟨j, hj, rfl⟩ := List.mem_iff_getElem.1 hx
  have := ha j (by omega)
  simpa [hj] using this

theorem valid_any (ws : List Int) (b : Nat) (w : World) (hlen : ws.length ≤ 1000)
    (hc : ∀ i : Nat, i < ws.length → w.cell? ⟨b, i, none⟩ = some (.int .i64 (ws.getD i 0))) :
    Calls Try.prog 151 #[.slice (some ⟨b, 0, none⟩) ws.length ws.length] w fun e w' => e = .returned (.bool (ws.all okW)) ∧ w = w' := by
  go_enter Try.func151, Try.ntmps151
  go_wp2
  go_loop [7] (fun i => ∃ k : Nat, k ≤ ws.length ∧ (∀ j : Nat, j < k → okW (ws.getD j 0) = true) ∧ i = .int .i64 k) (fun i => ws.length - (intOf i).toNat)
  case atStart => exact ⟨0, Nat.zero_le _, fun j hj => absurd hj (Nat.not_lt_zero _), rfl⟩
  case round =>
    obtain ⟨k, hk, hall, rfl⟩ := hrel
    have Hall := Lib.hid hall
    clear hall
    have Hc := Lib.hid hc
    clear hc
    by_cases hlt : k < ws.length
    · obtain ⟨x, hx⟩ : ∃ x, ws.getD k 0 = x := ⟨_, rfl⟩
      have hcell := Hc.out k hlt
      rw [hx] at hcell
      have HX := Lib.hid hx
      clear hx
      by_cases h1 : x < 1
      · go_wp2
        go_ret
        exact ⟨ret_b (valid_no ws k x hlt HX.out (by omega)).symm, rfl⟩
      · by_cases h2 : 32 < x
        · go_wp2
          go_ret
          exact ⟨ret_b (valid_no ws k x hlt HX.out (by omega)).symm, rfl⟩
        · go_wp2
          go_round
          case rel => exact ⟨k + 1, by omega, valid_step ws k x HX.out (by omega) Hall.out, by go_num⟩
          case measure => simp [intOf]; omega
    · go_wp2
      go_ret
      exact ⟨ret_b (valid_yes ws k (by omega) Hall.out).symm, rfl⟩
theorem cell1 (W : World) (x : Value) (t : TypeId) : ∀ i : Nat, i < 1 → (W.alloc (.cells #[x] t)).cell? ⟨W.heap.size, i, none⟩ = some x := by
  intro i hi
  obtain rfl : i = 0 := by omega
  simp [go_sem]

theorem valid1_yes (x : Int) (b : Nat) (w : World) (h : 1 ≤ x ∧ x ≤ 32) (hc : w.cell? ⟨b, 0, none⟩ = some (.int .i64 x)) :
    Calls Try.prog 151 #[.slice (some ⟨b, 0, none⟩) 1 1] w fun e w' => e = .returned (.bool true) ∧ w = w' := by
  have k := valid_any [x] b w (by simp) (by intro i hi; simp at hi; subst hi; simpa using hc)
  refine k.mono ?_
  rintro e w' ⟨rfl, rfl⟩
  exact ⟨ret_b (by simp [okW, h]), rfl⟩
theorem valid1_no (x : Int) (b : Nat) (w : World) (h : ¬ (1 ≤ x ∧ x ≤ 32)) (hc : w.cell? ⟨b, 0, none⟩ = some (.int .i64 x)) :
    Calls Try.prog 151 #[.slice (some ⟨b, 0, none⟩) 1 1] w fun e w' => e = .returned (.bool false) ∧ w = w' := by
  have k := valid_any [x] b w (by simp) (by intro i hi; simp at hi; subst hi; simpa using hc)
  refine k.mono ?_
  rintro e w' ⟨rfl, rfl⟩
  exact ⟨ret_b (by simp only [okW, List.all_cons, List.all_nil, Bool.and_true]; exact decide_eq_false h), rfl⟩
theorem valid3_any (x y z : Int) (b : Nat) (w : World) (v : Bool) (h : (okW x && (okW y && okW z)) = v)
    (h0 : w.cell? ⟨b, 0, none⟩ = some (.int .i64 x)) (h1 : w.cell? ⟨b, 1, none⟩ = some (.int .i64 y)) (h2 : w.cell? ⟨b, 2, none⟩ = some (.int .i64 z)) :
    Calls Try.prog 151 #[.slice (some ⟨b, 0, none⟩) 3 3] w fun e w' => e = .returned (.bool v) ∧ w = w' := by
  have k := valid_any [x, y, z] b w (by simp) (by
    intro i hi
    have hi' : i = 0 ∨ i = 1 ∨ i = 2 := by simp at hi; omega
    rcases hi' with rfl | rfl | rfl
    · simpa using h0
    · simpa using h1
    · simpa using h2)
  refine k.mono ?_
  rintro e w' ⟨rfl, rfl⟩
  exact ⟨ret_b (by rw [← h]; simp), rfl⟩

theorem mask_any (w : Int) (W : World) :
    Calls Try.prog 130 #[.int .i64 w] W (Ret (.int .u32 (mkB w)) W) := by
  by_cases h : 1 ≤ w ∧ w ≤ 32
  · have HE := Lib.hid (mask_shr w h)
    have HH := Lib.hid h
    obtain ⟨h1, h2⟩ := h
    go_enter Try.func130, Try.ntmps130
    go_wp2_with (go_at_call 151; refine (valid1_yes _ _ _ HH.out (cell1 _ _ _ 0 (by decide))).mono ?_; rintro e w' ⟨rfl, rfl⟩)
    go_ret
    exact ⟨ret_i HE.out, (Gr.refl _).alloc _ _⟩
  · have HH := Lib.hid h
    have HE := Lib.hid (mkB_out w h)
    clear h
    go_enter Try.func130, Try.ntmps130
    go_wp2_with (go_at_call 151; refine (valid1_no _ _ _ HH.out (cell1 _ _ _ 0 (by decide))).mono ?_; rintro e w' ⟨rfl, rfl⟩)
    go_ret
    exact ⟨ret_i HE.out.symm, (Gr.refl _).alloc _ _⟩
end Go.Proofs.Ytfjeonoihdgdoaa
