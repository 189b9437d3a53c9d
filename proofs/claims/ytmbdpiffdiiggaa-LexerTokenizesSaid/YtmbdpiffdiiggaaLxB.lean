/- What separates tokens: the walks of separators and of its closure; no condition but sizes and the bytes' range. -/
import Derived.Test.YtmbdpiffdiiggaaLxA
import Derived.Laws.ResultCell
namespace Go.Proofs.Ytmbdpiffdiiggaa
open Go.RowKit
set_option linter.unusedVariables false

/-- Whether a comment is open behind byte x, and whether x separates. -/
def cst (b : Bool) (x : Int) : Bool := if x = 35 then true else if x = 10 then false else b
def ans (b : Bool) (x : Int) : Bool := cst b x || decide (x = 32) || decide (x = 9) || decide (x = 10)
def sepC (b : Bool) (L : List Int) : Bool := L.foldl cst b
def skipK : Bool → List Int → Nat
  | _, [] => 0
  | b, x :: t => if ans b x = true then skipK (cst b x) t + 1 else 0
def nl (L : List Int) : Nat := L.count 10
theorem skipK_le (L : List Int) : ∀ b, skipK b L ≤ L.length := by
  induction L with
  | nil => intro b; exact Nat.le_refl _
  | cons x t ih =>
    intro b
    unfold skipK
    have := ih (cst b x)
    split <;> simp <;> omega
theorem skipK_yes (L : List Int) : ∀ b j, j < skipK b L → ans (sepC b (L.take j)) (L.getD j 0) = true := by
  induction L with
  | nil => intro b j h; exact absurd h (Nat.not_lt_zero _)
  | cons x t ih =>
    intro b j h
    unfold skipK at h
    split at h
    · rename_i ha
      cases j with
      | zero => simpa [sepC] using ha
      | succ j => simpa [sepC] using ih (cst b x) j (by omega)
    · exact absurd h (Nat.not_lt_zero _)
theorem skipK_no (L : List Int) : ∀ b, skipK b L < L.length → ans (sepC b (L.take (skipK b L))) (L.getD (skipK b L) 0) = false := by
  induction L with
  | nil => intro b h; exact absurd h (Nat.not_lt_zero _)
  | cons x t ih =>
    intro b h
    by_cases ha : ans b x = true
    · have e : skipK b (x :: t) = skipK (cst b x) t + 1 := by show (if _ then _ else _) = _; rw [if_pos ha]
      rw [e] at h ⊢
      have k := ih (cst b x) (by simpa using h)
      simpa [sepC] using k
    · have e : skipK b (x :: t) = 0 := by show (if _ then _ else _) = _; rw [if_neg ha]
      rw [e]
      simpa [sepC] using ha
theorem take_snoc' (L : List Int) (k : Nat) (h : k < L.length) : L.take (k + 1) = L.take k ++ [L.getD k 0] := take_snoc L k h
theorem sepC_step (L : List Int) (b : Bool) (k : Nat) (h : k < L.length) : sepC b (L.take (k + 1)) = cst (sepC b (L.take k)) (L.getD k 0) := by
  rw [take_snoc' L k h]; simp [sepC]
theorem nl_step (L : List Int) (k : Nat) (h : k < L.length) : nl (L.take (k + 1)) = nl (L.take k) + if L.getD k 0 = 10 then 1 else 0 := by
  rw [take_snoc' L k h]; unfold nl; rw [List.count_append, List.count_singleton]
  congr 1
  by_cases e : L.getD k 0 = 10
  · rw [e]; rfl
  · rw [if_neg e, if_neg]; simpa using e
theorem nl_le (L : List Int) : nl L ≤ L.length := List.count_le_length

/-- What the closure leaves. -/
def SepQ (W0 : World) (g4 g3 : Nat) (b : Bool) (n : Nat) (c : Int) (e : Ending) (w' : World) : Prop :=
  e = .returned (.bool (ans b c)) ∧ W0.grownBy w' none ∧ IsB w' g4 4 #[.bool (cst b c)] ∧ IsB w' g3 3 #[.int .i64 ((n + if c = 10 then 1 else 0 : Nat) : Int)]
theorem sepIs_any (W0 w : World) (g4 g3 : Nat) (b : Bool) (n : Nat) (c : Int) (h0 : 0 ≤ c) (h1 : c ≤ 255) (hG : W0.grownBy w none) (l4 : W0.heap.size ≤ g4) (l3 : W0.heap.size ≤ g3)
    (h4 : IsB w g4 4 #[.bool b]) (h3 : IsB w g3 3 #[.int .i64 n]) (hn : n ≤ 1000000) :
    Calls Try.prog 63 #[.int .u8 c, .pointer (some ⟨g4, 0, none⟩), .pointer (some ⟨g3, 0, none⟩)] w (SepQ W0 g4 g3 b n c) := by
  have H4 := Lib.hid h4
  have H3 := Lib.hid h3
  have HG := Lib.hid hG
  have hne : g3 ≠ g4 := IsB.ne h3 h4 (by decide)
  have hne2 : g4 ≠ g3 := fun e => hne e.symm
  have c4 := h4.cell 0
  have c3 := h3.cell 0
  have f4 := h4.free 0
  have f3 := h3.free 0
  simp only [List.getElem?_toArray, List.getElem?_cons_zero] at c3 c4
  clear h4 h3 hG
  by_cases e1 : c = 35
  · subst e1
    have b35 : ((35 : Int) == 10) = false := by decide
    go_enter Try.func63, Try.ntmps63
    go_wp2
    go_ret
    refine ⟨ret_b (by simp [ans, cst]), gb_new (gb_trans (gb_any HG.out) (gb_set _ _ _ _)) l4, H4.out.set 0 _, ?_⟩
    exact H3.out.set_far hne 0 _
  · by_cases e2 : c = 10
    · subst e2
      go_enter Try.func63, Try.ntmps63
      go_wp2
      go_ret
      refine ⟨ret_b (by simp [ans, cst]), gb_new (gb_trans (gb_any (gb_new (gb_trans (gb_any HG.out) (gb_set _ _ _ _)) l4)) (gb_set _ _ _ _)) l3, ?_, ?_⟩
      · exact (H4.out.set 0 _).set_far hne2 0 _
      · exact (H3.out.set_far hne 0 _).set 0 _
    · have HA := Lib.hid (show ans b c = (b || decide (c = 32) || decide (c = 9)) by unfold ans cst; rw [if_neg e1, if_neg e2]; simp [e2])
      have HC := Lib.hid (show cst b c = b by unfold cst; rw [if_neg e1, if_neg e2])
      have HI := Lib.hid (show (n + if c = 10 then 1 else 0 : Nat) = n by rw [if_neg e2]; rfl)
      have d1 : (c == 35) = false := by rw [beq_eq_false_iff_ne]; exact e1
      have d2 : (c == 10) = false := by rw [beq_eq_false_iff_ne]; exact e2
      cases b
      · by_cases e3 : c = 32
        · subst e3
          go_enter Try.func63, Try.ntmps63
          go_wp2
          go_ret
          exact ⟨ret_b (by rw [HA.out]; rfl), HG.out, by rw [HC.out]; exact H4.out, by rw [HI.out]; exact H3.out⟩
        · have d3 : (c == 32) = false := by rw [beq_eq_false_iff_ne]; exact e3
          by_cases e4 : c = 9
          · subst e4
            go_enter Try.func63, Try.ntmps63
            go_wp2
            go_ret
            exact ⟨ret_b (by rw [HA.out]; rfl), HG.out, by rw [HC.out]; exact H4.out, by rw [HI.out]; exact H3.out⟩
          · have d4 : (c == 9) = false := by rw [beq_eq_false_iff_ne]; exact e4
            have HX := Lib.hid (show ans false c = false by rw [HA.out]; simp [e3, e4])
            go_enter Try.func63, Try.ntmps63
            go_wp2
            go_ret
            exact ⟨ret_b HX.out.symm, HG.out, by rw [HC.out]; exact H4.out, by rw [HI.out]; exact H3.out⟩
      · go_enter Try.func63, Try.ntmps63
        go_wp2
        go_ret
        exact ⟨ret_b (by rw [HA.out]; simp), HG.out, by rw [HC.out]; exact H4.out, by rw [HI.out]; exact H3.out⟩

theorem nl_skip (L : List Int) (h : skipK false L < L.length) : nl (L.take (skipK false L + 1)) = nl (L.take (skipK false L)) := by
  have k := skipK_no L false h
  have hn : ¬ L.getD (skipK false L) 0 = 10 := by
    intro e
    rw [e] at k
    simp [ans] at k
  rw [nl_step L _ h, if_neg hn]
  rfl
theorem isb_two (w : World) (t t2 : TypeId) (cs cs2 : Array Value) : IsB ((w.alloc (.cells cs t)).alloc (.cells cs2 t2)) (w.heap.size + 1) t2 cs2 := by
  have k := IsB.new (w.alloc (.cells cs t)) t2 cs2
  have e : (w.alloc (.cells cs t)).heap.size = w.heap.size + 1 := by show (w.heap.push _).size = _; simp
  rw [e] at k
  exact k
theorem results_tmp_cell {fn : Func} {t p : Tmp} {ty : TypeId} (h : fn.results = #[.tmp t, .cell p ty]) (tmps : Array Value) (P : Program) (w : World) :
    (results fn tmps).run P w = ((asAddr (tmps.getD p undef)).run P w).andThen fun a w₁ => ((loadVar ty a).run P w₁).andThen fun v w₂ => .ok (.tuple #[tmps.getD t undef, v]) w₂ := by
  simp only [results, h]
  simp [Sem.run_bind, Result.andThen]
theorem separators_any (w : World) (L : List Int) (hL : ∀ x ∈ L, 0 ≤ x ∧ x ≤ 255) (hl : L.length ≤ 1000000) :
    Calls Try.prog 45 #[.string (strOf L)] w (RetQ (.tuple #[.int .i64 (skipK false L), .int .i64 (nl (L.take (skipK false L)))]) w none fun _ => True) := by
  have HL := Lib.hid hL
  have hk := skipK_le L false
  have HN := Lib.hid (show (if skipK false L < L.length then nl (L.take (skipK false L + 1)) else nl (L.take (skipK false L))) = nl (L.take (skipK false L)) by
    split
    · rename_i h; exact nl_skip L h
    · rfl)
  clear hL
  have hmf : ∀ (fn : Fn) (first cap : Array Value) (w : World), (Instr.makeFunc fn first cap).run Try.prog w = .ok (.func fn first cap) w := fun _ _ _ _ => rfl
  go_enter Try.func45, Try.ntmps45
  go_wp2_with fail
  have B3 := Lib.hid ((IsB.new w 3 #[.int .i64 0]).alloc (.cells #[.bool false] 4))
  have B4 := Lib.hid (isb_two w 3 4 #[.int .i64 0] #[.bool false])
  have G1 := Lib.hid (gb_trans (gb_alloc w (.cells #[.int .i64 0] 3) none) (gb_alloc _ (.cells #[.bool false] 4) none))
  generalize (w.alloc (.cells #[.int .i64 0] 3)).alloc (.cells #[.bool false] 4) = w1 at *
  refine (extent_any 63 #[.pointer (some ⟨w.heap.size + 1, 0, none⟩), .pointer (some ⟨w.heap.size, 0, none⟩)] w1 L (skipK false L) (fun i => ans (sepC false (L.take i)) (L.getD i 0))
    (fun i w' => w.grownBy w' none ∧ IsB w' (w.heap.size + 1) 4 #[.bool (sepC false (L.take i))] ∧ IsB w' w.heap.size 3 #[.int .i64 (nl (L.take i))]) HL.out hl hk (skipK_yes L false) (skipK_no L false) ⟨G1.out, B4.out, B3.out⟩ (fun _ _ => by rfl) ?_).mono ?_
  · intro i w' hi hJ
    have hx := getD_byte HL.out i
    refine (sepIs_any w w' (w.heap.size + 1) w.heap.size (sepC false (L.take i)) (nl (L.take i)) (L.getD i 0) hx.1 hx.2 hJ.1 (by omega) (Nat.le_refl _) hJ.2.1 hJ.2.2 (by have := nl_le (L.take i); simp at this; omega)).mono ?_
    rintro e w2 ⟨rfl, g2, b4, b3⟩
    refine ⟨rfl, g2, ?_, ?_⟩
    · rw [sepC_step L false i hi]; exact b4
    · rw [nl_step L i hi]; exact b3
  · rintro e w2 ⟨rfl, g2, b4, b3⟩
    have b5 : IsB w2 w.heap.size 3 #[.int .i64 (nl (L.take (skipK false L)))] := by
      have e1 : nl (L.take (if skipK false L < L.length then skipK false L + 1 else skipK false L)) = nl (L.take (skipK false L)) := by
        rw [← HN.out]; split <;> rfl
      rw [e1] at b3; exact b3
    have c3 : w2.cell? ⟨w.heap.size, 0, none⟩ = some (.int .i64 (nl (L.take (skipK false L)))) := b5.cell 0
    have f3 := b5.free 0
    have G2 := Lib.hid g2
    clear g2 b4 b3 b5 G1 B3 B4 HN
    go_wp2
    go_region
    all_goals (try go_wp2)
    all_goals (try simp only [Exit.inBlock, Exit.then])
    all_goals refine bodyPost_ret (v := .tuple #[.int .i64 (skipK false L), .int .i64 (nl (L.take (skipK false L)))]) (by rw [results_tmp_cell rfl]; go_simp) rfl ⟨rfl, ?_, trivial⟩
    all_goals exact gb_trans (gb_new (gb_trans (gb_any G2.out) (gb_set _ _ _ _)) (Nat.le_refl _)) (gb_drew _ _)
end Go.Proofs.Ytmbdpiffdiiggaa
