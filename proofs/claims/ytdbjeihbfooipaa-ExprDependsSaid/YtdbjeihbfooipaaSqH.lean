/- Rows of fields: the library's compaction; no condition but that the rows are short. -/
import Derived.Test.YtdbjeihbfooipaaSqG
namespace Go.Proofs.Ytdbjeihbfooipaa
open Go.RowKit
set_option linter.unusedVariables false
theorem own_setCells : ∀ (vs : List Value) (o : Nat) {w : World} {base : Nat} {e : TypeId} {k n g cap : Nat} {xs : List Value} (h : w.ownsRow base e k (.slice (some ⟨g, 0, none⟩) n cap) n xs), ∃ ys, (w.setCells g o vs).ownsRow base e k (.slice (some ⟨g, 0, none⟩) n cap) n ys ∧ ys.take o = xs.take o ∧ w.grownBy (w.setCells g o vs) (some g) := by
  intro vs
  induction vs with
  | nil => intro o w base e k n g cap xs h; exact ⟨xs, h, rfl, gb_refl _ _⟩
  | cons v vs ih =>
    intro o w base e k n g cap xs h
    have a := World.ownsRow.stored h o v
    obtain ⟨ys, b, c, d⟩ := ih (o + 1) a.1
    refine ⟨ys, b, ?_, gb_trans a.2 d⟩
    have c2 := congrArg (List.take o) c
    rw [List.take_take, List.take_take, Nat.min_eq_left (by omega)] at c2
    rw [c2, List.take_set_of_le (by omega)]
theorem run_clear2 (w : World) (ty : TypeId) (b o n c : Nat) (hn : 0 < n)
    (hc : ∀ j, j < n * 2 → (w.cell? ⟨b, o + j, none⟩).isSome = true) (hf : ∀ j, j < n * 2 → w.frozen? ⟨b, o + j, none⟩ = false) :
    (Builtin.clear_ #[42] ty #[.slice (some ⟨b, o, none⟩) n c]).run Try.prog w = .ok (.tuple #[]) (w.setCells b o (List.replicate (n * 2) (.int .i64 0))) := by
  have hzc : (Builtin.zeroCells #[.int .i64 0, .int .i64 0] n).toList = List.replicate (n * 2) (Value.int .i64 0) := by
    apply List.ext_getElem
    · simp [Builtin.zeroCells] <;> omega
    · intro i h1 h2
      simp only [Builtin.zeroCells, List.getElem_replicate]
      simp
      rcases (show i % 2 = 0 ∨ i % 2 = 1 by omega) with q | q <;> simp [q]
  have hst := Go.run_storeCells_cells (P := Try.prog) b o (List.replicate (n * 2) (.int .i64 0)) 0 w (by simpa using hc) (by simpa using hf) (by intro v hv'; rw [List.eq_of_mem_replicate hv']; rfl)
  simp only [Nat.add_zero] at hst
  obtain ⟨m, rfl⟩ : ∃ m, n = m + 1 := ⟨n - 1, by omega⟩
  have hv : ∀ w, (zeroValue 48).run Try.prog w = .ok (.agg #[.int .i64 0, .int .i64 0]) w := Try.zeroValue48
  simp [Builtin.clear_, run_underlying Try.underlying42, hv, Value.cells, hzc, hst]
theorem squ_yes (L : List (Int × Int)) (k : Nat) (h0 : 0 < k) (h : L.getD k rz = L.getD (k - 1) rz) : squP rz L (k + 1) = squP rz L k := by
  rw [show squP rz L (k + 1) = squP rz L k ++ (if k = 0 then [L.getD k rz] else if L.getD k rz = L.getD (k - 1) rz then [] else [L.getD k rz]) from rfl, if_neg (by omega), if_pos h, List.append_nil]
theorem squ_no (L : List (Int × Int)) (k : Nat) (h0 : 0 < k) (h : ¬ L.getD k rz = L.getD (k - 1) rz) : squP rz L (k + 1) = squP rz L k ++ [L.getD k rz] := by
  rw [show squP rz L (k + 1) = squP rz L k ++ (if k = 0 then [L.getD k rz] else if L.getD k rz = L.getD (k - 1) rz then [] else [L.getD k rz]) from rfl, if_neg (by omega), if_neg h]
theorem flat2_take (M : List (Int × Int)) : ∀ k, (M.flatMap rC).take (k * 2) = (M.take k).flatMap rC := by
  induction M with
  | nil => intro k; simp
  | cons p M ih =>
    intro k
    cases k with
    | zero => simp
    | succ k =>
      rw [List.take_succ_cons, List.flatMap_cons, List.flatMap_cons, ← ih k, show (k + 1) * 2 = k * 2 + 2 by omega]
      simp [rC]
theorem take_rf (L : List (Int × Int)) (k : Nat) (h : k < L.length) : L.take (k + 1) = L.take k ++ [L.getD k rz] := by
  rw [List.take_add_one, List.getD_eq_getElem?_getD, List.getElem?_eq_getElem h]; rfl
set_option maxRecDepth 100000 in
set_option maxHeartbeats 16000000 in
theorem kcompR_any (w : World) (base g d n : Nat) (L : List (Int × Int)) (hn : L.length = n) (ho : FL w base (.slice (some ⟨g, 0, none⟩) n d) L) (h2 : 2 ≤ n) (h1 : n ≤ 1000) (m : Nat) (hm : m = (squP rz L n).length) :
    Calls Try.prog 63 #[.slice (some ⟨g, 0, none⟩) n d] w fun e w' => e = .returned (.slice (some ⟨g, 0, none⟩) m d) ∧ FL w' base (.slice (some ⟨g, 0, none⟩) m d) (squP rz L n) ∧ w.grownBy w' (some g) := by
  have LN := Lib.hid hn
  have O0 := Lib.hid ho
  have HM := Lib.hid hm
  have ncap := own_cap (show w.ownsRow base 48 2 (.slice (some ⟨g, 0, none⟩) n d) n (L.flatMap rC) by have z := ho; unfold FL at z; rw [hn] at z; exact z)
  have n2 : ¬ (n : Int) < 2 := by omega
  clear hn ho hm
  go_enter Try.func63, Try.ntmps63
  go_wp2
  go_loopw [3, 4, 5] (fun s3 s4 s5 wr => ∃ k : Nat, 1 ≤ k ∧ k ≤ n ∧ s3 = .int .i64 k ∧ squP rz L k = L.take k ∧ FL wr base (.slice (some ⟨g, 0, none⟩) n d) L ∧ w.grownBy wr none) (fun s3 _ _ _ => n - (intOf s3).toNat)
  case atStart => exact ⟨1, by omega, by omega, rfl, by rw [take_rf L 0 (by rw [LN.out]; omega)]; rfl, O0.out, gb_refl _ _⟩
  case round =>
    obtain ⟨k, hk1, hk2, rfl, hs, ho, hg⟩ := hrel
    have SQ := Lib.hid hs
    have O := Lib.hid ho
    have G := Lib.hid hg
    clear hs ho hg O0
    by_cases hlt : k < n
    case neg =>
      have i1 : ¬ (k : Int) < n := by omega
      have hkn : k = n := by omega
      have EQ := Lib.hid (show squP rz L n = L by rw [← hkn, SQ.out, List.take_of_length_le (by rw [LN.out]; omega)])
      clear hkn
      go_wp2
      go_ret
      refine ⟨by rw [HM.out, EQ.out, LN.out] <;> rfl, ?_, gb_any G.out⟩
      rw [HM.out, EQ.out, LN.out]
      exact O.out
    obtain ⟨p, hp⟩ : ∃ p, p = k - 1 := ⟨_, rfl⟩
    have PK := Lib.hid (show p + 1 = k by omega)
    have i1 : (k : Int) < n := by omega
    have i0 : (0 : Int) ≤ (k : Int) := by omega
    have j1 : (p : Int) < n := by omega
    have j0 : (0 : Int) ≤ (p : Int) := by omega
    have hw0 : IntKind.i64.wrap ((k : Int) - 1) = (p : Int) := by rw [IntKind.wrap_i64]; omega
    have hw1 : IntKind.i64.wrap ((k : Int) + 1) = ((k + 1 : Nat) : Int) := by rw [IntKind.wrap_i64]; omega
    have OA := Lib.hid (show FL wr base (.slice (some ⟨g, 0, none⟩) L.length d) L by rw [LN.out]; exact O.out)
    obtain ⟨xa, xb⟩ := OA.out.at_ k (by rw [LN.out]; exact hlt)
    obtain ⟨ya, yb⟩ := OA.out.at_ p (by rw [LN.out]; omega)
    have SY := Lib.hid (squ_yes L k (by omega))
    have SN := Lib.hid (squ_no L k (by omega))
    rw [← hp] at SY SN
    have TK := Lib.hid (take_rf L k (by rw [LN.out]; exact hlt))
    obtain ⟨x, hx⟩ : ∃ x, x = L.getD k rz := ⟨_, rfl⟩
    obtain ⟨y, hy⟩ : ∃ y, y = L.getD p rz := ⟨_, rfl⟩
    rw [← hx] at xa xb SY SN TK
    rw [← hy] at ya yb SY SN
    clear hp hx hy
    obtain ⟨x1, x2⟩ := x
    obtain ⟨y1, y2⟩ := y
    dsimp only at xa xb ya yb
    by_cases hne : (x1, x2) = (y1, y2)
    case neg =>
      have S1 := Lib.hid (SN.out hne)
      have NX := Lib.hid (show squP rz L (k + 1) = L.take (k + 1) by rw [S1.out, TK.out, SQ.out])
      clear SY SN
      go_upto_region 6 with fail
      by_cases ha : x1 = y1
      · have hb : ¬ x2 = y2 := fun q => hne (by rw [ha, q])
        subst ha
        have e2 : (x2 == y2) = false := by rw [beq_eq_false_iff_ne]; exact hb
        clear hne
        have KS := Lib.hid (fun (w' : World) (q0 : wr.grownBy w' none) => (⟨q0.cell xa (by simp), q0.cell xb (by simp), q0.cell ya (by simp), q0.cell yb (by simp), q0⟩ : (fun w' : World => w'.cell? ⟨g, k * 2, none⟩ = some (.int .i64 x1) ∧ w'.cell? ⟨g, k * 2 + 1, none⟩ = some (.int .i64 x2) ∧ w'.cell? ⟨g, p * 2, none⟩ = some (.int .i64 x1) ∧ w'.cell? ⟨g, p * 2 + 1, none⟩ = some (.int .i64 y2) ∧ wr.grownBy w' none) w'))
        have H0 := Lib.hid (gb_drew wr none)
        refine wp_region_held_drew (S := (fun w' : World => w'.cell? ⟨g, k * 2, none⟩ = some (.int .i64 x1) ∧ w'.cell? ⟨g, k * 2 + 1, none⟩ = some (.int .i64 x2) ∧ w'.cell? ⟨g, p * 2, none⟩ = some (.int .i64 x1) ∧ w'.cell? ⟨g, p * 2 + 1, none⟩ = some (.int .i64 y2) ∧ wr.grownBy w' none)) (by kernel_rfl) (KS.out _ H0.out) (fun hH0 => ?_)
        refine wpAnyH_take (i := 0) (v := ?v11) rfl (by kernel_rfl) (by kernel_rfl) (by kernel_rfl) (fun _ _ _ h => h) (Or.inl ⟨by rfl, ?hy11⟩) (by assumption) ?rest11
        case hy11 => (intro wz hSw; (try dsimp only at hSw); first | (go_simp; done) | (go_simp; with_reducible rfl))
        try simp only [Act.put, List.getElem_toArray, List.getElem_cons_zero, List.setIfInBounds_toArray, List.set_cons_zero, List.set_cons_succ]
        refine wpAnyH_take (i := 1) (v := ?v12) rfl (by kernel_rfl) (by kernel_rfl) (by kernel_rfl) (fun _ _ _ h => h) (Or.inl ⟨by rfl, ?hy12⟩) (by assumption) ?rest12
        case hy12 => (intro wz hSw; (try dsimp only at hSw); first | (go_simp; done) | (go_simp; with_reducible rfl))
        try simp only [Act.put, List.getElem_toArray, List.getElem_cons_succ, List.getElem_cons_zero, List.setIfInBounds_toArray, List.set_cons_zero, List.set_cons_succ]
        refine wpAnyH_take (i := 2) (v := ?v13) rfl (by kernel_rfl) (by kernel_rfl) (by kernel_rfl) (fun _ _ _ h => h) (Or.inl ⟨by rfl, ?hy13⟩) (by assumption) ?rest13
        case hy13 => (intro wz hSw; (try dsimp only at hSw); first | (go_simp; done) | (go_simp; with_reducible rfl))
        try simp only [Act.put, List.getElem_toArray, List.getElem_cons_succ, List.getElem_cons_zero, List.setIfInBounds_toArray, List.set_cons_zero, List.set_cons_succ]
        refine wpAnyH_take (i := 3) (v := ?v14) rfl (by kernel_rfl) (by kernel_rfl) (by kernel_rfl) (fun _ _ _ h => h) (Or.inl ⟨by rfl, ?hy14⟩) (by assumption) ?rest14
        case hy14 => (intro wz hSw; (try dsimp only at hSw); first | (go_simp; done) | (go_simp; with_reducible rfl))
        try simp only [Act.put, List.getElem_toArray, List.getElem_cons_succ, List.getElem_cons_zero, List.setIfInBounds_toArray, List.set_cons_zero, List.set_cons_succ]
        refine wpAnyH_take (i := 4) (v := ?v15) rfl (by kernel_rfl) (by kernel_rfl) (by kernel_rfl) (fun _ _ _ h => h) (Or.inl ⟨by rfl, ?hy15⟩) (by assumption) ?rest15
        case hy15 => (intro wz hSw; (try dsimp only at hSw); first | (go_simp; done) | (go_simp; with_reducible rfl))
        try simp only [Act.put, List.getElem_toArray, List.getElem_cons_succ, List.getElem_cons_zero, List.setIfInBounds_toArray, List.set_cons_zero, List.set_cons_succ]
        refine wpAnyH_take (i := 5) (v := ?v16) rfl (by kernel_rfl) (by kernel_rfl) (by kernel_rfl) (fun _ _ _ h => h) (Or.inl ⟨by rfl, ?hy16⟩) (by assumption) ?rest16
        case hy16 => (intro wz hSw; (try dsimp only at hSw); first | (go_simp; done) | (go_simp; with_reducible rfl))
        try simp only [Act.put, List.getElem_toArray, List.getElem_cons_succ, List.getElem_cons_zero, List.setIfInBounds_toArray, List.set_cons_zero, List.set_cons_succ]
        refine wpAnyH_take (i := 6) (v := ?v17) rfl (by kernel_rfl) (by kernel_rfl) (by kernel_rfl) (fun _ _ _ h => h) (Or.inl ⟨by rfl, ?hy17⟩) (by assumption) ?rest17
        case hy17 => (intro wz hSw; (try dsimp only at hSw); first | (go_simp; done) | (go_simp; with_reducible rfl))
        try simp only [Act.put, List.getElem_toArray, List.getElem_cons_succ, List.getElem_cons_zero, List.setIfInBounds_toArray, List.set_cons_zero, List.set_cons_succ]
        refine wpAnyH_take (i := 7) (v := ?v18) rfl (by kernel_rfl) (by kernel_rfl) (by kernel_rfl) (fun _ _ _ h => h) (Or.inl ⟨by rfl, ?hy18⟩) (by assumption) ?rest18
        case hy18 => (intro wz hSw; (try dsimp only at hSw); first | (go_simp; done) | (go_simp; with_reducible rfl))
        try simp only [Act.put, List.getElem_toArray, List.getElem_cons_succ, List.getElem_cons_zero, List.setIfInBounds_toArray, List.set_cons_zero, List.set_cons_succ]
        refine wpAnyH_take (i := 8) (v := ?v19) rfl (by kernel_rfl) (by kernel_rfl) (by kernel_rfl) (fun _ _ _ h => h) (Or.inl ⟨by rfl, ?hy19⟩) (by assumption) ?rest19
        case hy19 => (intro wz hSw; (try dsimp only at hSw); first | (go_simp; done) | (go_simp; with_reducible rfl))
        try simp only [Act.put, List.getElem_toArray, List.getElem_cons_succ, List.getElem_cons_zero, List.setIfInBounds_toArray, List.set_cons_zero, List.set_cons_succ]
        refine wpAnyH_take (i := 9) (v := ?v20) rfl (by kernel_rfl) (by kernel_rfl) (by kernel_rfl) (fun _ _ _ h => h) (Or.inl ⟨by rfl, ?hy20⟩) (by assumption) ?rest20
        case hy20 => (intro wz hSw; (try dsimp only at hSw); first | (go_simp; done) | (go_simp; with_reducible rfl))
        try simp only [Act.put, List.getElem_toArray, List.getElem_cons_succ, List.getElem_cons_zero, List.setIfInBounds_toArray, List.set_cons_zero, List.set_cons_succ]
        refine wpAnyH_done (by kernel_rfl) ?_ _
        clear hH0
        have G2 := Lib.hid (gb_trans G.out H0.out)
        have O2 := Lib.hid (O.out.keep0 H0.out)
        go_wp2
        go_roundw
        case rel => exact ⟨k + 1, by omega, by omega, by go_num, NX.out, O2.out, G2.out⟩
        case measure => simp [intOf]; omega
      · have e2 : (x1 == y1) = false := by rw [beq_eq_false_iff_ne]; exact ha
        clear hne
        have KS := Lib.hid (fun (w' : World) (q0 : wr.grownBy w' none) => (⟨q0.cell xa (by simp), q0.cell xb (by simp), q0.cell ya (by simp), q0.cell yb (by simp), q0⟩ : (fun w' : World => w'.cell? ⟨g, k * 2, none⟩ = some (.int .i64 x1) ∧ w'.cell? ⟨g, k * 2 + 1, none⟩ = some (.int .i64 x2) ∧ w'.cell? ⟨g, p * 2, none⟩ = some (.int .i64 y1) ∧ w'.cell? ⟨g, p * 2 + 1, none⟩ = some (.int .i64 y2) ∧ wr.grownBy w' none) w'))
        have H0 := Lib.hid (gb_drew wr none)
        refine wp_region_held_drew (S := (fun w' : World => w'.cell? ⟨g, k * 2, none⟩ = some (.int .i64 x1) ∧ w'.cell? ⟨g, k * 2 + 1, none⟩ = some (.int .i64 x2) ∧ w'.cell? ⟨g, p * 2, none⟩ = some (.int .i64 y1) ∧ w'.cell? ⟨g, p * 2 + 1, none⟩ = some (.int .i64 y2) ∧ wr.grownBy w' none)) (by kernel_rfl) (KS.out _ H0.out) (fun hH0 => ?_)
        refine wpAnyH_take (i := 0) (v := ?v1) rfl (by kernel_rfl) (by kernel_rfl) (by kernel_rfl) (fun _ _ _ h => h) (Or.inl ⟨by rfl, ?hy1⟩) (by assumption) ?rest1
        case hy1 => (intro wz hSw; (try dsimp only at hSw); first | (go_simp; done) | (go_simp; with_reducible rfl))
        try simp only [Act.put, List.getElem_toArray, List.getElem_cons_zero, List.setIfInBounds_toArray, List.set_cons_zero, List.set_cons_succ]
        refine wpAnyH_take (i := 1) (v := ?v2) rfl (by kernel_rfl) (by kernel_rfl) (by kernel_rfl) (fun _ _ _ h => h) (Or.inl ⟨by rfl, ?hy2⟩) (by assumption) ?rest2
        case hy2 => (intro wz hSw; (try dsimp only at hSw); first | (go_simp; done) | (go_simp; with_reducible rfl))
        try simp only [Act.put, List.getElem_toArray, List.getElem_cons_succ, List.getElem_cons_zero, List.setIfInBounds_toArray, List.set_cons_zero, List.set_cons_succ]
        refine wpAnyH_take (i := 2) (v := ?v3) rfl (by kernel_rfl) (by kernel_rfl) (by kernel_rfl) (fun _ _ _ h => h) (Or.inl ⟨by rfl, ?hy3⟩) (by assumption) ?rest3
        case hy3 => (intro wz hSw; (try dsimp only at hSw); first | (go_simp; done) | (go_simp; with_reducible rfl))
        try simp only [Act.put, List.getElem_toArray, List.getElem_cons_succ, List.getElem_cons_zero, List.setIfInBounds_toArray, List.set_cons_zero, List.set_cons_succ]
        refine wpAnyH_take (i := 3) (v := ?v4) rfl (by kernel_rfl) (by kernel_rfl) (by kernel_rfl) (fun _ _ _ h => h) (Or.inl ⟨by rfl, ?hy4⟩) (by assumption) ?rest4
        case hy4 => (intro wz hSw; (try dsimp only at hSw); first | (go_simp; done) | (go_simp; with_reducible rfl))
        try simp only [Act.put, List.getElem_toArray, List.getElem_cons_succ, List.getElem_cons_zero, List.setIfInBounds_toArray, List.set_cons_zero, List.set_cons_succ]
        refine wpAnyH_take (i := 4) (v := ?v5) rfl (by kernel_rfl) (by kernel_rfl) (by kernel_rfl) (fun _ _ _ h => h) (Or.inl ⟨by rfl, ?hy5⟩) (by assumption) ?rest5
        case hy5 => (intro wz hSw; (try dsimp only at hSw); first | (go_simp; done) | (go_simp; with_reducible rfl))
        try simp only [Act.put, List.getElem_toArray, List.getElem_cons_succ, List.getElem_cons_zero, List.setIfInBounds_toArray, List.set_cons_zero, List.set_cons_succ]
        refine wpAnyH_take (i := 5) (v := ?v6) rfl (by kernel_rfl) (by kernel_rfl) (by kernel_rfl) (fun _ _ _ h => h) (Or.inl ⟨by rfl, ?hy6⟩) (by assumption) ?rest6
        case hy6 => (intro wz hSw; (try dsimp only at hSw); first | (go_simp; done) | (go_simp; with_reducible rfl))
        try simp only [Act.put, List.getElem_toArray, List.getElem_cons_succ, List.getElem_cons_zero, List.setIfInBounds_toArray, List.set_cons_zero, List.set_cons_succ]
        refine wpAnyH_take (i := 6) (v := ?v7) rfl (by kernel_rfl) (by kernel_rfl) (by kernel_rfl) (fun _ _ _ h => h) (Or.inl ⟨by rfl, ?hy7⟩) (by assumption) ?rest7
        case hy7 => (intro wz hSw; (try dsimp only at hSw); first | (go_simp; done) | (go_simp; with_reducible rfl))
        try simp only [Act.put, List.getElem_toArray, List.getElem_cons_succ, List.getElem_cons_zero, List.setIfInBounds_toArray, List.set_cons_zero, List.set_cons_succ]
        refine wpAnyH_take (i := 7) (v := ?v8) rfl (by kernel_rfl) (by kernel_rfl) (by kernel_rfl) (fun _ _ _ h => h) (Or.inl ⟨by rfl, ?hy8⟩) (by assumption) ?rest8
        case hy8 => (intro wz hSw; (try dsimp only at hSw); first | (go_simp; done) | (go_simp; with_reducible rfl))
        try simp only [Act.put, List.getElem_toArray, List.getElem_cons_succ, List.getElem_cons_zero, List.setIfInBounds_toArray, List.set_cons_zero, List.set_cons_succ]
        refine wpAnyH_take (i := 8) (v := ?v9) rfl (by kernel_rfl) (by kernel_rfl) (by kernel_rfl) (fun _ _ _ h => h) (Or.inl ⟨by rfl, ?hy9⟩) (by assumption) ?rest9
        case hy9 => (intro wz hSw; (try dsimp only at hSw); first | (go_simp; done) | (go_simp; with_reducible rfl))
        try simp only [Act.put, List.getElem_toArray, List.getElem_cons_succ, List.getElem_cons_zero, List.setIfInBounds_toArray, List.set_cons_zero, List.set_cons_succ]
        refine wpAnyH_take (i := 9) (v := ?v10) rfl (by kernel_rfl) (by kernel_rfl) (by kernel_rfl) (fun _ _ _ h => h) (Or.inl ⟨by rfl, ?hy10⟩) (by assumption) ?rest10
        case hy10 => (intro wz hSw; (try dsimp only at hSw); first | (go_simp; done) | (go_simp; with_reducible rfl))
        try simp only [Act.put, List.getElem_toArray, List.getElem_cons_succ, List.getElem_cons_zero, List.setIfInBounds_toArray, List.set_cons_zero, List.set_cons_succ]
        refine wpAnyH_done (by kernel_rfl) ?_ _
        clear hH0
        have G2 := Lib.hid (gb_trans G.out H0.out)
        have O2 := Lib.hid (O.out.keep0 H0.out)
        go_wp2
        go_roundw
        case rel => exact ⟨k + 1, by omega, by omega, by go_num, NX.out, O2.out, G2.out⟩
        case measure => simp [intOf]; omega
    case pos =>
      have S1 := Lib.hid (SY.out hne)
      injection hne with ha hb
      subst ha hb
      clear SY SN
      go_upto_region 6 with fail
      have KS := Lib.hid (fun (w' : World) (q0 : wr.grownBy w' none) => (⟨q0.cell xa (by simp), q0.cell xb (by simp), q0.cell ya (by simp), q0.cell yb (by simp), q0⟩ : (fun w' : World => w'.cell? ⟨g, k * 2, none⟩ = some (.int .i64 x1) ∧ w'.cell? ⟨g, k * 2 + 1, none⟩ = some (.int .i64 x2) ∧ w'.cell? ⟨g, p * 2, none⟩ = some (.int .i64 x1) ∧ w'.cell? ⟨g, p * 2 + 1, none⟩ = some (.int .i64 x2) ∧ wr.grownBy w' none) w'))
      have H0 := Lib.hid (gb_drew wr none)
      refine wp_region_held_drew (S := (fun w' : World => w'.cell? ⟨g, k * 2, none⟩ = some (.int .i64 x1) ∧ w'.cell? ⟨g, k * 2 + 1, none⟩ = some (.int .i64 x2) ∧ w'.cell? ⟨g, p * 2, none⟩ = some (.int .i64 x1) ∧ w'.cell? ⟨g, p * 2 + 1, none⟩ = some (.int .i64 x2) ∧ wr.grownBy w' none)) (by kernel_rfl) (KS.out _ H0.out) (fun hH0 => ?_)
      refine wpAnyH_take (i := 0) (v := ?v21) rfl (by kernel_rfl) (by kernel_rfl) (by kernel_rfl) (fun _ _ _ h => h) (Or.inl ⟨by rfl, ?hy21⟩) (by assumption) ?rest21
      case hy21 => (intro wz hSw; (try dsimp only at hSw); first | (go_simp; done) | (go_simp; with_reducible rfl))
      try simp only [Act.put, List.getElem_toArray, List.getElem_cons_zero, List.setIfInBounds_toArray, List.set_cons_zero, List.set_cons_succ]
      refine wpAnyH_take (i := 1) (v := ?v22) rfl (by kernel_rfl) (by kernel_rfl) (by kernel_rfl) (fun _ _ _ h => h) (Or.inl ⟨by rfl, ?hy22⟩) (by assumption) ?rest22
      case hy22 => (intro wz hSw; (try dsimp only at hSw); first | (go_simp; done) | (go_simp; with_reducible rfl))
      try simp only [Act.put, List.getElem_toArray, List.getElem_cons_succ, List.getElem_cons_zero, List.setIfInBounds_toArray, List.set_cons_zero, List.set_cons_succ]
      refine wpAnyH_take (i := 2) (v := ?v23) rfl (by kernel_rfl) (by kernel_rfl) (by kernel_rfl) (fun _ _ _ h => h) (Or.inl ⟨by rfl, ?hy23⟩) (by assumption) ?rest23
      case hy23 => (intro wz hSw; (try dsimp only at hSw); first | (go_simp; done) | (go_simp; with_reducible rfl))
      try simp only [Act.put, List.getElem_toArray, List.getElem_cons_succ, List.getElem_cons_zero, List.setIfInBounds_toArray, List.set_cons_zero, List.set_cons_succ]
      refine wpAnyH_take (i := 3) (v := ?v24) rfl (by kernel_rfl) (by kernel_rfl) (by kernel_rfl) (fun _ _ _ h => h) (Or.inl ⟨by rfl, ?hy24⟩) (by assumption) ?rest24
      case hy24 => (intro wz hSw; (try dsimp only at hSw); first | (go_simp; done) | (go_simp; with_reducible rfl))
      try simp only [Act.put, List.getElem_toArray, List.getElem_cons_succ, List.getElem_cons_zero, List.setIfInBounds_toArray, List.set_cons_zero, List.set_cons_succ]
      refine wpAnyH_take (i := 4) (v := ?v25) rfl (by kernel_rfl) (by kernel_rfl) (by kernel_rfl) (fun _ _ _ h => h) (Or.inl ⟨by rfl, ?hy25⟩) (by assumption) ?rest25
      case hy25 => (intro wz hSw; (try dsimp only at hSw); first | (go_simp; done) | (go_simp; with_reducible rfl))
      try simp only [Act.put, List.getElem_toArray, List.getElem_cons_succ, List.getElem_cons_zero, List.setIfInBounds_toArray, List.set_cons_zero, List.set_cons_succ]
      refine wpAnyH_take (i := 5) (v := ?v26) rfl (by kernel_rfl) (by kernel_rfl) (by kernel_rfl) (fun _ _ _ h => h) (Or.inl ⟨by rfl, ?hy26⟩) (by assumption) ?rest26
      case hy26 => (intro wz hSw; (try dsimp only at hSw); first | (go_simp; done) | (go_simp; with_reducible rfl))
      try simp only [Act.put, List.getElem_toArray, List.getElem_cons_succ, List.getElem_cons_zero, List.setIfInBounds_toArray, List.set_cons_zero, List.set_cons_succ]
      refine wpAnyH_take (i := 6) (v := ?v27) rfl (by kernel_rfl) (by kernel_rfl) (by kernel_rfl) (fun _ _ _ h => h) (Or.inl ⟨by rfl, ?hy27⟩) (by assumption) ?rest27
      case hy27 => (intro wz hSw; (try dsimp only at hSw); first | (go_simp; done) | (go_simp; with_reducible rfl))
      try simp only [Act.put, List.getElem_toArray, List.getElem_cons_succ, List.getElem_cons_zero, List.setIfInBounds_toArray, List.set_cons_zero, List.set_cons_succ]
      refine wpAnyH_take (i := 7) (v := ?v28) rfl (by kernel_rfl) (by kernel_rfl) (by kernel_rfl) (fun _ _ _ h => h) (Or.inl ⟨by rfl, ?hy28⟩) (by assumption) ?rest28
      case hy28 => (intro wz hSw; (try dsimp only at hSw); first | (go_simp; done) | (go_simp; with_reducible rfl))
      try simp only [Act.put, List.getElem_toArray, List.getElem_cons_succ, List.getElem_cons_zero, List.setIfInBounds_toArray, List.set_cons_zero, List.set_cons_succ]
      refine wpAnyH_take (i := 8) (v := ?v29) rfl (by kernel_rfl) (by kernel_rfl) (by kernel_rfl) (fun _ _ _ h => h) (Or.inl ⟨by rfl, ?hy29⟩) (by assumption) ?rest29
      case hy29 => (intro wz hSw; (try dsimp only at hSw); first | (go_simp; done) | (go_simp; with_reducible rfl))
      try simp only [Act.put, List.getElem_toArray, List.getElem_cons_succ, List.getElem_cons_zero, List.setIfInBounds_toArray, List.set_cons_zero, List.set_cons_succ]
      refine wpAnyH_take (i := 9) (v := ?v30) rfl (by kernel_rfl) (by kernel_rfl) (by kernel_rfl) (fun _ _ _ h => h) (Or.inl ⟨by rfl, ?hy30⟩) (by assumption) ?rest30
      case hy30 => (intro wz hSw; (try dsimp only at hSw); first | (go_simp; done) | (go_simp; with_reducible rfl))
      try simp only [Act.put, List.getElem_toArray, List.getElem_cons_succ, List.getElem_cons_zero, List.setIfInBounds_toArray, List.set_cons_zero, List.set_cons_succ]
      refine wpAnyH_done (by kernel_rfl) ?_ _
      clear hH0
      have G2 := Lib.hid (gb_trans G.out H0.out)
      have O2 := Lib.hid (O.out.keep0 H0.out)
      clear xa xb ya yb KS
      have kd : k ≤ d := by omega
      have hsub : IntKind.i64.wrap ((n : Int) - (k : Int)) = ((n - k : Nat) : Int) := by rw [IntKind.wrap_i64]; omega
      go_wp2
      go_loopw [3, 5] (fun s3 s5 wi => ∃ (j kk : Nat) (L' : List (Int × Int)), 1 ≤ j ∧ j ≤ n - k ∧ s5 = .int .i64 j ∧ s3 = .int .i64 kk ∧ k ≤ kk ∧ kk < k + j ∧ L'.length = n ∧ squP rz L (k + j) = L'.take kk ∧ (∀ i, k + j ≤ i + 1 → L'.getD i rz = L.getD i rz) ∧ FL wi base (.slice (some ⟨g, 0, none⟩) n d) L' ∧ w.grownBy wi (some g)) (fun _ s5 _ => n - (intOf s5).toNat)
      case atStart => exact ⟨1, k, L, by omega, by omega, rfl, rfl, by omega, by omega, LN.out, by rw [S1.out, SQ.out], fun _ _ => rfl, O2.out, gb_any G2.out⟩
      case round =>
        obtain ⟨j, kk, L', a1, a2, rfl, rfl, a3, a4, al, asq, ae, ao, ag⟩ := hrel
        have AL := Lib.hid al
        have ASQ := Lib.hid asq
        have AE := Lib.hid ae
        have AO := Lib.hid ao
        have AG := Lib.hid ag
        clear al asq ae ao ag
        have i3 : (0 : Int) ≤ (kk : Int) := by omega
        have i4 : (kk : Int) ≤ n := by omega
        have i5 : (kk : Int) ≤ d := by omega
        have i6 : (kk : Int) < n := by omega
        have i7 : (n : Int) ≤ d := by omega
        by_cases hj : j < n - k
        case neg =>
          have hjn : j = n - k := by omega
          have i2 : ¬ (j : Int) < ((n - k : Nat) : Int) := by omega
          have EQ := Lib.hid (show squP rz L n = L'.take kk by rw [← ASQ.out, hjn]; congr 1; omega)
          have MK := Lib.hid (show m = kk by rw [HM.out, EQ.out, List.length_take, AL.out]; omega)
          have hs2 : IntKind.i64.wrap ((n : Int) - (kk : Int)) = ((n - kk : Nat) : Int) := by rw [IntKind.wrap_i64]; omega
          clear hjn
          have WR := Lib.hid (show wr.ownsRow base 48 2 (.slice (some ⟨g, 0, none⟩) n d) n (L'.flatMap rC) by have z := AO.out; unfold FL at z; rw [AL.out] at z; exact z)
          have hfl := flat2_len L'
          rw [AL.out] at hfl
          have hclr := fun ty => run_clear2 wr ty g (kk * 2) (n - kk) (d - kk) (by omega) (fun j hj => by
            have z := WR.out.cellAt (kk * 2 + j) (by omega)
            rw [z, List.getElem?_eq_getElem (by omega)]
            rfl) (fun j _ => WR.out.frozenAt _)
          obtain ⟨ys, WS, YT, YG⟩ := own_setCells (List.replicate ((n - kk) * 2) (.int .i64 0)) (kk * 2) WR.out
          have WC := own_cut WS (show kk ≤ n by omega)
          have YE := Lib.hid (show ys.take (kk * 2) = (L'.take kk).flatMap rC by rw [YT]; exact flat2_take L' kk)
          have G3 := Lib.hid (gb_trans AG.out YG)
          rw [YE.out] at WC
          have WF := Lib.hid WC
          generalize hwz : wr.setCells g (kk * 2) (List.replicate ((n - kk) * 2) (.int .i64 0)) = wz at *
          clear WC WS YT YG YE WR hfl
          go_wp2
          go_ret
          refine ⟨by rw [MK.out] <;> rfl, ?_, G3.out⟩
          rw [EQ.out, MK.out]
          have q : (L'.take kk).length = kk := by rw [List.length_take, AL.out]; omega
          unfold FL
          rw [q]
          exact WF.out
        case pos =>
          have i2 : (j : Int) < ((n - k : Nat) : Int) := by omega
          obtain ⟨r, hr⟩ : ∃ r, r = j - 1 := ⟨_, rfl⟩
          have hw2 : IntKind.i64.wrap ((j : Int) - 1) = (r : Int) := by rw [IntKind.wrap_i64]; omega
          have hw3 : IntKind.i64.wrap ((j : Int) + 1) = ((j + 1 : Nat) : Int) := by rw [IntKind.wrap_i64]; omega
          have hw4 : IntKind.i64.wrap ((kk : Int) + 1) = ((kk + 1 : Nat) : Int) := by rw [IntKind.wrap_i64]; omega
          have j2 : (0 : Int) ≤ (j : Int) := by omega
          have j3 : (0 : Int) ≤ (r : Int) := by omega
          have j4 : (r : Int) < ((n - k : Nat) : Int) := by omega
          have AA := Lib.hid (show FL wr base (.slice (some ⟨g, 0, none⟩) L'.length d) L' by rw [AL.out]; exact AO.out)
          obtain ⟨xa, xb⟩ := AA.out.at_ (k + j) (by rw [AL.out]; omega)
          obtain ⟨ya, yb⟩ := AA.out.at_ (k + r) (by rw [AL.out]; omega)
          rw [AE.out (k + j) (by omega)] at xa xb
          rw [AE.out (k + r) (by omega)] at ya yb
          have SY := Lib.hid (squ_yes L (k + j) (by omega))
          have SN := Lib.hid (squ_no L (k + j) (by omega))
          rw [show k + j - 1 = k + r by omega] at SY SN
          have XA := Lib.hid (AE.out (k + j) (by omega))
          obtain ⟨x, hx⟩ : ∃ x, x = L.getD (k + j) rz := ⟨_, rfl⟩
          obtain ⟨y, hy⟩ : ∃ y, y = L.getD (k + r) rz := ⟨_, rfl⟩
          rw [← hx] at xa xb SY SN XA
          rw [← hy] at ya yb SY SN
          clear hx hy
          obtain ⟨x3, x4⟩ := x
          obtain ⟨y3, y4⟩ := y
          dsimp only at xa xb ya yb
          rw [show (k + j) * 2 = k * 2 + j * 2 by omega] at xa xb
          rw [show (k + r) * 2 = k * 2 + r * 2 by omega] at ya yb
          clear hr
          by_cases hne : (x3, x4) = (y3, y4)
          case pos =>
            have S2 := Lib.hid (SY.out hne)
            injection hne with ha hb
            subst ha hb
            clear SY SN
            go_upto_region 11 with fail
            have KJ := Lib.hid (fun (w' : World) (q0 : wr.grownBy w' none) => (⟨q0.cell xa (by simp), q0.cell xb (by simp), q0.cell ya (by simp), q0.cell yb (by simp), q0⟩ : (fun w' : World => w'.cell? ⟨g, k * 2 + j * 2, none⟩ = some (.int .i64 x3) ∧ w'.cell? ⟨g, k * 2 + j * 2 + 1, none⟩ = some (.int .i64 x4) ∧ w'.cell? ⟨g, k * 2 + r * 2, none⟩ = some (.int .i64 x3) ∧ w'.cell? ⟨g, k * 2 + r * 2 + 1, none⟩ = some (.int .i64 x4) ∧ wr.grownBy w' none) w'))
            have J0 := Lib.hid (gb_drew wr none)
            refine wp_region_held_drew (S := (fun w' : World => w'.cell? ⟨g, k * 2 + j * 2, none⟩ = some (.int .i64 x3) ∧ w'.cell? ⟨g, k * 2 + j * 2 + 1, none⟩ = some (.int .i64 x4) ∧ w'.cell? ⟨g, k * 2 + r * 2, none⟩ = some (.int .i64 x3) ∧ w'.cell? ⟨g, k * 2 + r * 2 + 1, none⟩ = some (.int .i64 x4) ∧ wr.grownBy w' none)) (by kernel_rfl) (KJ.out _ J0.out) (fun hH0 => ?_)
            refine wpAnyH_take (i := 0) (v := ?v31) rfl (by kernel_rfl) (by kernel_rfl) (by kernel_rfl) (fun _ _ _ h => h) (Or.inl ⟨by rfl, ?hy31⟩) (by assumption) ?rest31
            case hy31 => (intro wz hSw; (try dsimp only at hSw); first | (go_simp; done) | (go_simp; with_reducible rfl))
            try simp only [Act.put, List.getElem_toArray, List.getElem_cons_zero, List.setIfInBounds_toArray, List.set_cons_zero, List.set_cons_succ]
            refine wpAnyH_take (i := 1) (v := ?v32) rfl (by kernel_rfl) (by kernel_rfl) (by kernel_rfl) (fun _ _ _ h => h) (Or.inl ⟨by rfl, ?hy32⟩) (by assumption) ?rest32
            case hy32 => (intro wz hSw; (try dsimp only at hSw); first | (go_simp; done) | (go_simp; with_reducible rfl))
            try simp only [Act.put, List.getElem_toArray, List.getElem_cons_succ, List.getElem_cons_zero, List.setIfInBounds_toArray, List.set_cons_zero, List.set_cons_succ]
            refine wpAnyH_take (i := 2) (v := ?v33) rfl (by kernel_rfl) (by kernel_rfl) (by kernel_rfl) (fun _ _ _ h => h) (Or.inl ⟨by rfl, ?hy33⟩) (by assumption) ?rest33
            case hy33 => (intro wz hSw; (try dsimp only at hSw); first | (go_simp; done) | (go_simp; with_reducible rfl))
            try simp only [Act.put, List.getElem_toArray, List.getElem_cons_succ, List.getElem_cons_zero, List.setIfInBounds_toArray, List.set_cons_zero, List.set_cons_succ]
            refine wpAnyH_take (i := 3) (v := ?v34) rfl (by kernel_rfl) (by kernel_rfl) (by kernel_rfl) (fun _ _ _ h => h) (Or.inl ⟨by rfl, ?hy34⟩) (by assumption) ?rest34
            case hy34 => (intro wz hSw; (try dsimp only at hSw); first | (go_simp; done) | (go_simp; with_reducible rfl))
            try simp only [Act.put, List.getElem_toArray, List.getElem_cons_succ, List.getElem_cons_zero, List.setIfInBounds_toArray, List.set_cons_zero, List.set_cons_succ]
            refine wpAnyH_take (i := 4) (v := ?v35) rfl (by kernel_rfl) (by kernel_rfl) (by kernel_rfl) (fun _ _ _ h => h) (Or.inl ⟨by rfl, ?hy35⟩) (by assumption) ?rest35
            case hy35 => (intro wz hSw; (try dsimp only at hSw); first | (go_simp; done) | (go_simp; with_reducible rfl))
            try simp only [Act.put, List.getElem_toArray, List.getElem_cons_succ, List.getElem_cons_zero, List.setIfInBounds_toArray, List.set_cons_zero, List.set_cons_succ]
            refine wpAnyH_take (i := 5) (v := ?v36) rfl (by kernel_rfl) (by kernel_rfl) (by kernel_rfl) (fun _ _ _ h => h) (Or.inl ⟨by rfl, ?hy36⟩) (by assumption) ?rest36
            case hy36 => (intro wz hSw; (try dsimp only at hSw); first | (go_simp; done) | (go_simp; with_reducible rfl))
            try simp only [Act.put, List.getElem_toArray, List.getElem_cons_succ, List.getElem_cons_zero, List.setIfInBounds_toArray, List.set_cons_zero, List.set_cons_succ]
            refine wpAnyH_take (i := 6) (v := ?v37) rfl (by kernel_rfl) (by kernel_rfl) (by kernel_rfl) (fun _ _ _ h => h) (Or.inl ⟨by rfl, ?hy37⟩) (by assumption) ?rest37
            case hy37 => (intro wz hSw; (try dsimp only at hSw); first | (go_simp; done) | (go_simp; with_reducible rfl))
            try simp only [Act.put, List.getElem_toArray, List.getElem_cons_succ, List.getElem_cons_zero, List.setIfInBounds_toArray, List.set_cons_zero, List.set_cons_succ]
            refine wpAnyH_take (i := 7) (v := ?v38) rfl (by kernel_rfl) (by kernel_rfl) (by kernel_rfl) (fun _ _ _ h => h) (Or.inl ⟨by rfl, ?hy38⟩) (by assumption) ?rest38
            case hy38 => (intro wz hSw; (try dsimp only at hSw); first | (go_simp; done) | (go_simp; with_reducible rfl))
            try simp only [Act.put, List.getElem_toArray, List.getElem_cons_succ, List.getElem_cons_zero, List.setIfInBounds_toArray, List.set_cons_zero, List.set_cons_succ]
            refine wpAnyH_take (i := 8) (v := ?v39) rfl (by kernel_rfl) (by kernel_rfl) (by kernel_rfl) (fun _ _ _ h => h) (Or.inl ⟨by rfl, ?hy39⟩) (by assumption) ?rest39
            case hy39 => (intro wz hSw; (try dsimp only at hSw); first | (go_simp; done) | (go_simp; with_reducible rfl))
            try simp only [Act.put, List.getElem_toArray, List.getElem_cons_succ, List.getElem_cons_zero, List.setIfInBounds_toArray, List.set_cons_zero, List.set_cons_succ]
            refine wpAnyH_take (i := 9) (v := ?v40) rfl (by kernel_rfl) (by kernel_rfl) (by kernel_rfl) (fun _ _ _ h => h) (Or.inl ⟨by rfl, ?hy40⟩) (by assumption) ?rest40
            case hy40 => (intro wz hSw; (try dsimp only at hSw); first | (go_simp; done) | (go_simp; with_reducible rfl))
            try simp only [Act.put, List.getElem_toArray, List.getElem_cons_succ, List.getElem_cons_zero, List.setIfInBounds_toArray, List.set_cons_zero, List.set_cons_succ]
            refine wpAnyH_done (by kernel_rfl) ?_ _
            clear hH0
            have A2 := Lib.hid (gb_trans AG.out (gb_any J0.out))
            have O3 := Lib.hid (AO.out.keep0 J0.out)
            go_wp2
            go_roundw
            case rel => exact ⟨j + 1, kk, L', by omega, by omega, by go_num, rfl, by omega, by omega, AL.out, by rw [← Nat.add_assoc, S2.out, ASQ.out], fun i hi => AE.out i (by omega), O3.out, A2.out⟩
            case measure => simp [intOf]; omega
          case neg =>
            have S2 := Lib.hid (SN.out hne)
            clear SY SN
            have TKE := Lib.hid (show (L'.set kk (x3, x4)).take (kk + 1) = squP rz L (k + j + 1) by
              rw [S2.out, ASQ.out]
              apply List.ext_getElem?
              intro i
              rw [List.getElem?_take, List.getElem?_append, List.getElem?_take, List.length_take, AL.out, Nat.min_eq_left (by omega)]
              by_cases q : i < kk
              · rw [if_pos (by omega), if_pos q, if_pos q, List.getElem?_set_ne (by omega)]
              · by_cases q2 : i = kk
                · subst q2
                  rw [if_pos (by omega), if_neg q, List.getElem?_set_self (by rw [AL.out]; omega), Nat.sub_self]
                  rfl
                · rw [if_neg (by omega), if_neg q, List.getElem?_eq_none (by simp; omega)])
            have AE2 := Lib.hid (fun i (hi : k + (j + 1) ≤ i + 1) => show (L'.set kk (x3, x4)).getD i rz = L.getD i rz by
              rw [List.getD_eq_getElem?_getD, List.getElem?_set_ne (by omega), ← List.getD_eq_getElem?_getD]
              exact AE.out i (by omega))
            go_upto_region 11 with fail
            by_cases ha : x3 = y3
            · have hb : ¬ x4 = y4 := fun q => hne (by rw [ha, q])
              subst ha
              have e2 : (x4 == y4) = false := by rw [beq_eq_false_iff_ne]; exact hb
              clear hne
              have KJ := Lib.hid (fun (w' : World) (q0 : wr.grownBy w' none) => (⟨q0.cell xa (by simp), q0.cell xb (by simp), q0.cell ya (by simp), q0.cell yb (by simp), q0⟩ : (fun w' : World => w'.cell? ⟨g, k * 2 + j * 2, none⟩ = some (.int .i64 x3) ∧ w'.cell? ⟨g, k * 2 + j * 2 + 1, none⟩ = some (.int .i64 x4) ∧ w'.cell? ⟨g, k * 2 + r * 2, none⟩ = some (.int .i64 x3) ∧ w'.cell? ⟨g, k * 2 + r * 2 + 1, none⟩ = some (.int .i64 y4) ∧ wr.grownBy w' none) w'))
              have J0 := Lib.hid (gb_drew wr none)
              refine wp_region_held_drew (S := (fun w' : World => w'.cell? ⟨g, k * 2 + j * 2, none⟩ = some (.int .i64 x3) ∧ w'.cell? ⟨g, k * 2 + j * 2 + 1, none⟩ = some (.int .i64 x4) ∧ w'.cell? ⟨g, k * 2 + r * 2, none⟩ = some (.int .i64 x3) ∧ w'.cell? ⟨g, k * 2 + r * 2 + 1, none⟩ = some (.int .i64 y4) ∧ wr.grownBy w' none)) (by kernel_rfl) (KJ.out _ J0.out) (fun hH0 => ?_)
              refine wpAnyH_take (i := 0) (v := ?v41) rfl (by kernel_rfl) (by kernel_rfl) (by kernel_rfl) (fun _ _ _ h => h) (Or.inl ⟨by rfl, ?hy41⟩) (by assumption) ?rest41
              case hy41 => (intro wz hSw; (try dsimp only at hSw); first | (go_simp; done) | (go_simp; with_reducible rfl))
              try simp only [Act.put, List.getElem_toArray, List.getElem_cons_zero, List.setIfInBounds_toArray, List.set_cons_zero, List.set_cons_succ]
              refine wpAnyH_take (i := 1) (v := ?v42) rfl (by kernel_rfl) (by kernel_rfl) (by kernel_rfl) (fun _ _ _ h => h) (Or.inl ⟨by rfl, ?hy42⟩) (by assumption) ?rest42
              case hy42 => (intro wz hSw; (try dsimp only at hSw); first | (go_simp; done) | (go_simp; with_reducible rfl))
              try simp only [Act.put, List.getElem_toArray, List.getElem_cons_succ, List.getElem_cons_zero, List.setIfInBounds_toArray, List.set_cons_zero, List.set_cons_succ]
              refine wpAnyH_take (i := 2) (v := ?v43) rfl (by kernel_rfl) (by kernel_rfl) (by kernel_rfl) (fun _ _ _ h => h) (Or.inl ⟨by rfl, ?hy43⟩) (by assumption) ?rest43
              case hy43 => (intro wz hSw; (try dsimp only at hSw); first | (go_simp; done) | (go_simp; with_reducible rfl))
              try simp only [Act.put, List.getElem_toArray, List.getElem_cons_succ, List.getElem_cons_zero, List.setIfInBounds_toArray, List.set_cons_zero, List.set_cons_succ]
              refine wpAnyH_take (i := 3) (v := ?v44) rfl (by kernel_rfl) (by kernel_rfl) (by kernel_rfl) (fun _ _ _ h => h) (Or.inl ⟨by rfl, ?hy44⟩) (by assumption) ?rest44
              case hy44 => (intro wz hSw; (try dsimp only at hSw); first | (go_simp; done) | (go_simp; with_reducible rfl))
              try simp only [Act.put, List.getElem_toArray, List.getElem_cons_succ, List.getElem_cons_zero, List.setIfInBounds_toArray, List.set_cons_zero, List.set_cons_succ]
              refine wpAnyH_take (i := 4) (v := ?v45) rfl (by kernel_rfl) (by kernel_rfl) (by kernel_rfl) (fun _ _ _ h => h) (Or.inl ⟨by rfl, ?hy45⟩) (by assumption) ?rest45
              case hy45 => (intro wz hSw; (try dsimp only at hSw); first | (go_simp; done) | (go_simp; with_reducible rfl))
              try simp only [Act.put, List.getElem_toArray, List.getElem_cons_succ, List.getElem_cons_zero, List.setIfInBounds_toArray, List.set_cons_zero, List.set_cons_succ]
              refine wpAnyH_take (i := 5) (v := ?v46) rfl (by kernel_rfl) (by kernel_rfl) (by kernel_rfl) (fun _ _ _ h => h) (Or.inl ⟨by rfl, ?hy46⟩) (by assumption) ?rest46
              case hy46 => (intro wz hSw; (try dsimp only at hSw); first | (go_simp; done) | (go_simp; with_reducible rfl))
              try simp only [Act.put, List.getElem_toArray, List.getElem_cons_succ, List.getElem_cons_zero, List.setIfInBounds_toArray, List.set_cons_zero, List.set_cons_succ]
              refine wpAnyH_take (i := 6) (v := ?v47) rfl (by kernel_rfl) (by kernel_rfl) (by kernel_rfl) (fun _ _ _ h => h) (Or.inl ⟨by rfl, ?hy47⟩) (by assumption) ?rest47
              case hy47 => (intro wz hSw; (try dsimp only at hSw); first | (go_simp; done) | (go_simp; with_reducible rfl))
              try simp only [Act.put, List.getElem_toArray, List.getElem_cons_succ, List.getElem_cons_zero, List.setIfInBounds_toArray, List.set_cons_zero, List.set_cons_succ]
              refine wpAnyH_take (i := 7) (v := ?v48) rfl (by kernel_rfl) (by kernel_rfl) (by kernel_rfl) (fun _ _ _ h => h) (Or.inl ⟨by rfl, ?hy48⟩) (by assumption) ?rest48
              case hy48 => (intro wz hSw; (try dsimp only at hSw); first | (go_simp; done) | (go_simp; with_reducible rfl))
              try simp only [Act.put, List.getElem_toArray, List.getElem_cons_succ, List.getElem_cons_zero, List.setIfInBounds_toArray, List.set_cons_zero, List.set_cons_succ]
              refine wpAnyH_take (i := 8) (v := ?v49) rfl (by kernel_rfl) (by kernel_rfl) (by kernel_rfl) (fun _ _ _ h => h) (Or.inl ⟨by rfl, ?hy49⟩) (by assumption) ?rest49
              case hy49 => (intro wz hSw; (try dsimp only at hSw); first | (go_simp; done) | (go_simp; with_reducible rfl))
              try simp only [Act.put, List.getElem_toArray, List.getElem_cons_succ, List.getElem_cons_zero, List.setIfInBounds_toArray, List.set_cons_zero, List.set_cons_succ]
              refine wpAnyH_take (i := 9) (v := ?v50) rfl (by kernel_rfl) (by kernel_rfl) (by kernel_rfl) (fun _ _ _ h => h) (Or.inl ⟨by rfl, ?hy50⟩) (by assumption) ?rest50
              case hy50 => (intro wz hSw; (try dsimp only at hSw); first | (go_simp; done) | (go_simp; with_reducible rfl))
              try simp only [Act.put, List.getElem_toArray, List.getElem_cons_succ, List.getElem_cons_zero, List.setIfInBounds_toArray, List.set_cons_zero, List.set_cons_succ]
              refine wpAnyH_done (by kernel_rfl) ?_ _
              clear hH0
              clear xa xb ya yb KJ
              obtain ⟨xa, xb⟩ := AA.out.at_ (k + j) (by rw [AL.out]; omega)
              rw [XA.out, show (k + j) * 2 = k * 2 + j * 2 by omega] at xa xb
              dsimp only at xa xb
              have fz := AA.out.free
              obtain ⟨za, zb⟩ := AA.out.at_ kk (by rw [AL.out]; omega)
              have PU := Lib.hid (AA.out.put kk (by rw [AL.out]; omega) (x3, x4))
              have PF := Lib.hid (by have z := PU.out.1.keep0 (gb_drew _ none); rw [AL.out] at z; exact z)
              have PG := Lib.hid (gb_trans AG.out (gb_trans PU.out.2 (gb_drew _ _)))
              go_wp2
              go_roundw
              case rel => exact ⟨j + 1, kk + 1, L'.set kk (x3, x4), by omega, by omega, by go_num, by go_num, by omega, by omega, by rw [List.length_set, AL.out], by rw [← Nat.add_assoc, TKE.out], AE2.out, PF.out, PG.out⟩
              case measure => simp [intOf]; omega
            · have e2 : (x3 == y3) = false := by rw [beq_eq_false_iff_ne]; exact ha
              clear hne
              have KJ := Lib.hid (fun (w' : World) (q0 : wr.grownBy w' none) => (⟨q0.cell xa (by simp), q0.cell xb (by simp), q0.cell ya (by simp), q0.cell yb (by simp), q0⟩ : (fun w' : World => w'.cell? ⟨g, k * 2 + j * 2, none⟩ = some (.int .i64 x3) ∧ w'.cell? ⟨g, k * 2 + j * 2 + 1, none⟩ = some (.int .i64 x4) ∧ w'.cell? ⟨g, k * 2 + r * 2, none⟩ = some (.int .i64 y3) ∧ w'.cell? ⟨g, k * 2 + r * 2 + 1, none⟩ = some (.int .i64 y4) ∧ wr.grownBy w' none) w'))
              have J0 := Lib.hid (gb_drew wr none)
              refine wp_region_held_drew (S := (fun w' : World => w'.cell? ⟨g, k * 2 + j * 2, none⟩ = some (.int .i64 x3) ∧ w'.cell? ⟨g, k * 2 + j * 2 + 1, none⟩ = some (.int .i64 x4) ∧ w'.cell? ⟨g, k * 2 + r * 2, none⟩ = some (.int .i64 y3) ∧ w'.cell? ⟨g, k * 2 + r * 2 + 1, none⟩ = some (.int .i64 y4) ∧ wr.grownBy w' none)) (by kernel_rfl) (KJ.out _ J0.out) (fun hH0 => ?_)
              refine wpAnyH_take (i := 0) (v := ?v51) rfl (by kernel_rfl) (by kernel_rfl) (by kernel_rfl) (fun _ _ _ h => h) (Or.inl ⟨by rfl, ?hy51⟩) (by assumption) ?rest51
              case hy51 => (intro wz hSw; (try dsimp only at hSw); first | (go_simp; done) | (go_simp; with_reducible rfl))
              try simp only [Act.put, List.getElem_toArray, List.getElem_cons_zero, List.setIfInBounds_toArray, List.set_cons_zero, List.set_cons_succ]
              refine wpAnyH_take (i := 1) (v := ?v52) rfl (by kernel_rfl) (by kernel_rfl) (by kernel_rfl) (fun _ _ _ h => h) (Or.inl ⟨by rfl, ?hy52⟩) (by assumption) ?rest52
              case hy52 => (intro wz hSw; (try dsimp only at hSw); first | (go_simp; done) | (go_simp; with_reducible rfl))
              try simp only [Act.put, List.getElem_toArray, List.getElem_cons_succ, List.getElem_cons_zero, List.setIfInBounds_toArray, List.set_cons_zero, List.set_cons_succ]
              refine wpAnyH_take (i := 2) (v := ?v53) rfl (by kernel_rfl) (by kernel_rfl) (by kernel_rfl) (fun _ _ _ h => h) (Or.inl ⟨by rfl, ?hy53⟩) (by assumption) ?rest53
              case hy53 => (intro wz hSw; (try dsimp only at hSw); first | (go_simp; done) | (go_simp; with_reducible rfl))
              try simp only [Act.put, List.getElem_toArray, List.getElem_cons_succ, List.getElem_cons_zero, List.setIfInBounds_toArray, List.set_cons_zero, List.set_cons_succ]
              refine wpAnyH_take (i := 3) (v := ?v54) rfl (by kernel_rfl) (by kernel_rfl) (by kernel_rfl) (fun _ _ _ h => h) (Or.inl ⟨by rfl, ?hy54⟩) (by assumption) ?rest54
              case hy54 => (intro wz hSw; (try dsimp only at hSw); first | (go_simp; done) | (go_simp; with_reducible rfl))
              try simp only [Act.put, List.getElem_toArray, List.getElem_cons_succ, List.getElem_cons_zero, List.setIfInBounds_toArray, List.set_cons_zero, List.set_cons_succ]
              refine wpAnyH_take (i := 4) (v := ?v55) rfl (by kernel_rfl) (by kernel_rfl) (by kernel_rfl) (fun _ _ _ h => h) (Or.inl ⟨by rfl, ?hy55⟩) (by assumption) ?rest55
              case hy55 => (intro wz hSw; (try dsimp only at hSw); first | (go_simp; done) | (go_simp; with_reducible rfl))
              try simp only [Act.put, List.getElem_toArray, List.getElem_cons_succ, List.getElem_cons_zero, List.setIfInBounds_toArray, List.set_cons_zero, List.set_cons_succ]
              refine wpAnyH_take (i := 5) (v := ?v56) rfl (by kernel_rfl) (by kernel_rfl) (by kernel_rfl) (fun _ _ _ h => h) (Or.inl ⟨by rfl, ?hy56⟩) (by assumption) ?rest56
              case hy56 => (intro wz hSw; (try dsimp only at hSw); first | (go_simp; done) | (go_simp; with_reducible rfl))
              try simp only [Act.put, List.getElem_toArray, List.getElem_cons_succ, List.getElem_cons_zero, List.setIfInBounds_toArray, List.set_cons_zero, List.set_cons_succ]
              refine wpAnyH_take (i := 6) (v := ?v57) rfl (by kernel_rfl) (by kernel_rfl) (by kernel_rfl) (fun _ _ _ h => h) (Or.inl ⟨by rfl, ?hy57⟩) (by assumption) ?rest57
              case hy57 => (intro wz hSw; (try dsimp only at hSw); first | (go_simp; done) | (go_simp; with_reducible rfl))
              try simp only [Act.put, List.getElem_toArray, List.getElem_cons_succ, List.getElem_cons_zero, List.setIfInBounds_toArray, List.set_cons_zero, List.set_cons_succ]
              refine wpAnyH_take (i := 7) (v := ?v58) rfl (by kernel_rfl) (by kernel_rfl) (by kernel_rfl) (fun _ _ _ h => h) (Or.inl ⟨by rfl, ?hy58⟩) (by assumption) ?rest58
              case hy58 => (intro wz hSw; (try dsimp only at hSw); first | (go_simp; done) | (go_simp; with_reducible rfl))
              try simp only [Act.put, List.getElem_toArray, List.getElem_cons_succ, List.getElem_cons_zero, List.setIfInBounds_toArray, List.set_cons_zero, List.set_cons_succ]
              refine wpAnyH_take (i := 8) (v := ?v59) rfl (by kernel_rfl) (by kernel_rfl) (by kernel_rfl) (fun _ _ _ h => h) (Or.inl ⟨by rfl, ?hy59⟩) (by assumption) ?rest59
              case hy59 => (intro wz hSw; (try dsimp only at hSw); first | (go_simp; done) | (go_simp; with_reducible rfl))
              try simp only [Act.put, List.getElem_toArray, List.getElem_cons_succ, List.getElem_cons_zero, List.setIfInBounds_toArray, List.set_cons_zero, List.set_cons_succ]
              refine wpAnyH_take (i := 9) (v := ?v60) rfl (by kernel_rfl) (by kernel_rfl) (by kernel_rfl) (fun _ _ _ h => h) (Or.inl ⟨by rfl, ?hy60⟩) (by assumption) ?rest60
              case hy60 => (intro wz hSw; (try dsimp only at hSw); first | (go_simp; done) | (go_simp; with_reducible rfl))
              try simp only [Act.put, List.getElem_toArray, List.getElem_cons_succ, List.getElem_cons_zero, List.setIfInBounds_toArray, List.set_cons_zero, List.set_cons_succ]
              refine wpAnyH_done (by kernel_rfl) ?_ _
              clear hH0
              clear xa xb ya yb KJ
              obtain ⟨xa, xb⟩ := AA.out.at_ (k + j) (by rw [AL.out]; omega)
              rw [XA.out, show (k + j) * 2 = k * 2 + j * 2 by omega] at xa xb
              dsimp only at xa xb
              have fz := AA.out.free
              obtain ⟨za, zb⟩ := AA.out.at_ kk (by rw [AL.out]; omega)
              have PU := Lib.hid (AA.out.put kk (by rw [AL.out]; omega) (x3, x4))
              have PF := Lib.hid (by have z := PU.out.1.keep0 (gb_drew _ none); rw [AL.out] at z; exact z)
              have PG := Lib.hid (gb_trans AG.out (gb_trans PU.out.2 (gb_drew _ _)))
              go_wp2
              go_roundw
              case rel => exact ⟨j + 1, kk + 1, L'.set kk (x3, x4), by omega, by omega, by go_num, by go_num, by omega, by omega, by rw [List.length_set, AL.out], by rw [← Nat.add_assoc, TKE.out], AE2.out, PF.out, PG.out⟩
              case measure => simp [intOf]; omega
end Go.Proofs.Ytdbjeihbfooipaa
