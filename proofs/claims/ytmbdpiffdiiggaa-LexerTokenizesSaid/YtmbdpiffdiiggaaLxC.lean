/- Tokens made: the walks of the extents of names and numbers and of newToken; no condition but sizes and the bytes' range. -/
import Derived.Test.YtmbdpiffdiiggaaLxB
import Derived.Laws.IdiomStrings
import Derived.Laws.Rows
namespace Go.Proofs.Ytmbdpiffdiiggaa
open Go.RowKit
set_option linter.unusedVariables false

def spanK (p : Int → Bool) : List Int → Nat
  | [] => 0
  | x :: t => if p x = true then spanK p t + 1 else 0
theorem spanK_le (p : Int → Bool) (L : List Int) : spanK p L ≤ L.length := by
  induction L with
  | nil => exact Nat.le_refl _
  | cons x t ih => unfold spanK; split <;> simp <;> omega
theorem spanK_yes (p : Int → Bool) (L : List Int) : ∀ j, j < spanK p L → p (L.getD j 0) = true := by
  induction L with
  | nil => intro j h; exact absurd h (Nat.not_lt_zero _)
  | cons x t ih =>
    intro j h
    unfold spanK at h
    split at h
    · rename_i ha
      cases j with
      | zero => simpa using ha
      | succ j => simpa using ih j (by omega)
    · exact absurd h (Nat.not_lt_zero _)
theorem spanK_no (p : Int → Bool) (L : List Int) (h : spanK p L < L.length) : p (L.getD (spanK p L) 0) = false := by
  induction L with
  | nil => exact absurd h (Nat.not_lt_zero _)
  | cons x t ih =>
    by_cases ha : p x = true
    · have e : spanK p (x :: t) = spanK p t + 1 := by show (if _ then _ else _) = _; rw [if_pos ha]
      rw [e] at h ⊢
      simpa using ih (by simpa using h)
    · have e : spanK p (x :: t) = 0 := by show (if _ then _ else _) = _; rw [if_neg ha]
      rw [e]
      simpa using ha
/-- A closure that only asks a byte. -/
theorem span_any (f : Nat) (p : Int → Bool) (w : World) (L : List Int) (hL : ∀ x ∈ L, 0 ≤ x ∧ x ≤ 255) (hl : L.length ≤ 1000000)
    (hcf : ∀ (args : Array Value) (w : World), (callFunc f args).run Try.prog w = .ok (.enter f args) w)
    (hp : ∀ (w : World) (c : Int), 0 ≤ c → c ≤ 255 → Calls Try.prog f #[.int .u8 c] w (RetS (.bool (p c)) w)) :
    Calls Try.prog 62 #[.string (strOf L), .func (.func f) #[] #[]] w (RetS (.int .i64 (spanK p L)) w) := by
  refine (extent_any f #[] w L (spanK p L) (fun i => p (L.getD i 0)) (fun _ w' => w' = w) hL hl (spanK_le p L) (spanK_yes p L) (spanK_no p L) rfl hcf ?_).mono ?_
  · intro i w' hi hw
    subst hw
    have hx := getD_byte hL i
    refine (hp w' _ hx.1 hx.2).mono ?_
    rintro e w2 ⟨rfl, rfl⟩
    exact ⟨rfl, rfl⟩
  · rintro e w2 ⟨rfl, rfl⟩
    exact ⟨rfl, rfl⟩
set_option maxRecDepth 100000 in
theorem nameExtent_any (w : World) (L : List Int) (hL : ∀ x ∈ L, 0 ≤ x ∧ x ≤ 255) (hl : L.length ≤ 1000000) :
    Calls Try.prog 50 #[.string (strOf L)] w (RetS (.int .i64 (spanK isW L)) w) := by
  have H := Lib.hid (span_any 73 isW w L hL hl (fun _ _ => by rfl) (fun w c h0 h1 => nameIs_any w c h0 h1))
  go_enter Try.func50, Try.ntmps50
  go_wp2_with fail
  refine H.out.mono ?_
  rintro e w2 ⟨rfl, rfl⟩
  go_wp2
  go_ret
  exact ⟨rfl, rfl⟩
set_option maxRecDepth 100000 in
theorem numberExtent_any (w : World) (L : List Int) (hL : ∀ x ∈ L, 0 ≤ x ∧ x ≤ 255) (hl : L.length ≤ 1000000) :
    Calls Try.prog 67 #[.string (strOf L)] w (RetS (.int .i64 (spanK isA L)) w) := by
  have H := Lib.hid (span_any 84 isA w L hL hl (fun _ _ => by rfl) (fun w c h0 h1 => numberIs_any w c h0 h1))
  go_enter Try.func67, Try.ntmps67
  go_wp2_with fail
  refine H.out.mono ?_
  rintro e w2 ⟨rfl, rfl⟩
  go_wp2
  go_ret
  exact ⟨rfl, rfl⟩

theorem bytesRow_at (T : List Int) (hT : ∀ x ∈ T, 0 ≤ x ∧ x ≤ 255) (c j : Nat) (hj : j < T.length) : (bytesRow (strOf T) c)[j]? = some (.int .u8 (T.getD j 0)) := by
  unfold bytesRow
  have hz := strOf_size T
  have h1 : j < ((strOf T).data.map (fun b => Value.int .u8 b.toNat)).size := by simp; omega
  rw [Array.getElem?_append_left h1, Array.getElem?_map]
  have e : (strOf T).data[j]? = (strOf T).data.toList[j]? := by simp
  have hx := hT T[j] (List.getElem_mem hj)
  rw [e, strOf_data, List.getElem?_map, List.getElem?_eq_getElem hj]
  simp [hj]
  omega
theorem conv_bytes (w : World) (T : List Int) (hT : ∀ x ∈ T, 0 ≤ x ∧ x ≤ 255) :
    ∃ a c w2, (convert 9 35 (.string (strOf T))).run Try.prog w = .ok (.slice a T.length c) w2 ∧ w.grownBy w2 none ∧ SlR w2 a T.length c (T.map (Value.int .u8)) := by
  have k := run_bytes_of_string w 9 35 5 (strOf T) Try.underlying9 Try.underlying35 Try.underlying5
  rw [strOf_size] at k
  refine ⟨_, _, _, k, gb_trans (gb_drew w none) (gb_alloc _ _ _), by simp, by simp, ?_⟩
  intro ad ha j u hu
  injection ha with ha; subst ha
  have hj : j < T.length := by
    have := (List.getElem?_eq_some_iff.1 hu).1
    simpa using this
  have e : ((⟨w.heap.size, 0, none⟩ : Addr).add j) = ⟨w.heap.size, j, none⟩ := by unfold Addr.add; split <;> simp_all
  have e2 : ∀ (cs : Array Value) (t : TypeId) (fr : Nat × Nat), (w.drew.alloc (.cells cs t fr)).cell? ⟨w.heap.size, j, none⟩ = cs[j]? := by
    intro cs t fr
    have : (w.drew.alloc (.cells cs t fr)).heap[w.heap.size]? = some (.cells cs t fr) := by
      show (w.heap.push _)[w.heap.size]? = _
      simp
    unfold World.cell?
    simp only
    rw [this]
    rfl
  rw [e, e2, bytesRow_at T hT _ j hj, ← hu]
  simp [hj]
theorem gb_put {W0 w : World} {g i : Nat} {u : Value} (h : W0.grownBy w none) (hg : W0.heap.size ≤ g) : W0.grownBy (w.setCell ⟨g, i, none⟩ u) none := gb_new (gb_trans (gb_any h) (gb_set _ _ _ _)) hg
theorem results_cell1 {fn : Func} {p : Tmp} {ty : TypeId} (h : fn.results = #[.cell p ty]) (tmps : Array Value) (P : Program) (w : World) :
    (results fn tmps).run P w = ((asAddr (tmps.getD p undef)).run P w).andThen fun a w₁ => ((loadVar ty a).run P w₁) := by
  simp only [results, h]
  simp [Sem.run_bind, Result.andThen]
set_option maxRecDepth 100000 in
theorem newToken_any (w : World) (k : Int) (T : List Int) (v : Int) (hT : ∀ x ∈ T, 0 ≤ x ∧ x ≤ 255) :
    Calls Try.prog 81 #[.int .i64 k, .string (strOf T), .int .u32 v] w (RetQ (.agg #[.int .i64 k, .string (strOf T), .int .u32 v, .int .i64 0]) w none fun _ => True) := by
  have HT := Lib.hid hT
  clear hT
  have B1 := Lib.hid (IsB.new w 34 #[.int .i64 0, .string { data := #[] }, .int .u32 0, .int .i64 0])
  have G1 := Lib.hid (gb_alloc w (.cells #[.int .i64 0, .string { data := #[] }, .int .u32 0, .int .i64 0] 34) none)
  obtain ⟨a, c, w2, hcv, g2, s2⟩ := conv_bytes (w.alloc (.cells #[.int .i64 0, .string { data := #[] }, .int .u32 0, .int .i64 0] 34)) T HT.out
  have hcb := conv_str w2 a _ c T s2
  have B2 := Lib.hid (B1.out.keep0 g2)
  have G2 := Lib.hid (gb_trans G1.out g2)
  have c0 : w2.cell? ⟨w.heap.size, 0, none⟩ = some (.int .i64 0) := B2.out.cell 0
  have c1 : w2.cell? ⟨w.heap.size, 1, none⟩ = some (.string { data := #[] }) := B2.out.cell 1
  have c2 : w2.cell? ⟨w.heap.size, 2, none⟩ = some (.int .u32 0) := B2.out.cell 2
  have c3 : w2.cell? ⟨w.heap.size, 3, none⟩ = some (.int .i64 0) := B2.out.cell 3
  have f0 := B2.out.free 0
  have f1 := B2.out.free 1
  have f2 := B2.out.free 2
  have f3 := B2.out.free 3
  clear g2 s2 G1 B1
  go_enter Try.func81, Try.ntmps81
  go_wp2
  (try simp only [Exit.inBlock, Exit.then])
  refine bodyPost_ret (v := .agg #[.int .i64 k, .string (strOf T), .int .u32 v, .int .i64 0]) (by rw [results_cell1 rfl]; go_simp) rfl ⟨rfl, ?_, trivial⟩
  repeat refine gb_put ?_ (Nat.le_refl _)
  exact G2.out
end Go.Proofs.Ytmbdpiffdiiggaa
