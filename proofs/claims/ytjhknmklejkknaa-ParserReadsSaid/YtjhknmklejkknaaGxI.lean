/- Several texts in one: PsK, PsL. -/
import Derived.Test.YtjhknmklejkknaaPsJ
import Derived.BigQuiet
import Derived.Test.YtjhknmklejkknaaGxG
section
namespace Go.Proofs.Ytjhknmklejkknaa
open Go.RowKit
set_option linter.unusedVariables false
/-- One extraction: the error, the packet, the reader's place. -/
def pEx (H : List (ByteArray × List Fld)) (bs : List Int) (L : EL) (pos h : Nat) : Int × EL × Nat :=
  if (rdH (H.getD h hz).1 (H.getD h hz).2 bs pos).1 = 0 then (0, ⟨L.V.set h true, L.F.set h (rdH (H.getD h hz).1 (H.getD h hz).2 bs pos).2.1, L.T, L.P⟩, (rdH (H.getD h hz).1 (H.getD h hz).2 bs pos).2.2)
  else ((rdH (H.getD h hz).1 (H.getD h hz).2 bs pos).1, L, (rdH (H.getD h hz).1 (H.getD h hz).2 bs pos).2.2)
/-- The extractions of a state, up to the first error. -/
def pExs (H : List (ByteArray × List Fld)) (bs : List Int) : List Int → EL → Nat → Int × EL × Nat
  | [], L, p => (0, L, p)
  | h :: t, L, p => if (pEx H bs L p h.toNat).1 = 0 then pExs H bs t (pEx H bs L p h.toNat).2.1 (pEx H bs L p h.toNat).2.2 else pEx H bs L p h.toNat
/-- A case matches the value. -/
def hitB (v : Int) (c : Cse) : Bool := bits .and .u32 (bits .xor .u32 v c.v) c.m == 0
/-- Where a state leads. -/
def pNext (cs : List Cse) (df v : Int) : Int := ((cs.find? (hitB v)).map (·.nx)).getD df
/-- A parse: the error, the states that it enters, the packet, the reader's place. -/
def pGo (H : List (ByteArray × List Fld)) (bs : List Int) (S : List Pst) : Nat → Nat → List Int → EL → Nat → Int × List Int × EL × Nat
  | 0, _, st, L, p => (0, st, L, p)
  | fuel + 1, i, st, L, p =>
    if (pExs H bs (S.getD i psz).ex L p).1 = 0 then
      (let L2 := (pExs H bs (S.getD i psz).ex L p).2.1
       let p2 := (pExs H bs (S.getD i psz).ex L p).2.2
       let x := pNext (S.getD i psz).cs (S.getD i psz).df (getE L2.V L2.F L2.T (S.getD i psz).h (S.getD i psz).f)
       if x = -2 then (15, st, L2, p2) else if x = -1 then (0, st, L2, p2) else pGo H bs S fuel x.toNat (st ++ [x]) L2 p2)
    else ((pExs H bs (S.getD i psz).ex L p).1, st, (pExs H bs (S.getD i psz).ex L p).2.1, (pExs H bs (S.getD i psz).ex L p).2.2)
theorem find_skip {α : Type} (p : α → Bool) (L : List α) (d : α) : ∀ k, k ≤ L.length → (∀ i, i < k → p (L.getD i d) = false) → L.find? p = (L.drop k).find? p := by
  intro k
  induction k with
  | zero => intro _ _; simp
  | succ k ih =>
    intro hk h
    rw [ih (by omega) (fun i hi => h i (by omega))]
    have hl : k < L.length := by omega
    rw [List.drop_eq_getElem_cons hl, List.find?_cons]
    have q := h k (by omega)
    rw [List.getD_eq_getElem?_getD, List.getElem?_eq_getElem hl] at q
    simp only [Option.getD_some] at q
    rw [q]
theorem pNext_hit {cs : List Cse} {df v : Int} {k : Nat} (hk : k < cs.length) (h : ∀ i, i < k → hitB v (cs.getD i csz) = false) (x : hitB v (cs.getD k csz) = true) : pNext cs df v = (cs.getD k csz).nx := by
  unfold pNext
  rw [find_skip (hitB v) cs csz k (by omega) h, List.drop_eq_getElem_cons hk, List.find?_cons]
  rw [List.getD_eq_getElem?_getD, List.getElem?_eq_getElem hk] at x ⊢
  simp only [Option.getD_some] at x ⊢
  rw [x]; rfl
theorem pNext_none {cs : List Cse} {df v : Int} (h : ∀ i, i < cs.length → hitB v (cs.getD i csz) = false) : pNext cs df v = df := by
  unfold pNext
  rw [find_skip (hitB v) cs csz cs.length (Nat.le_refl _) h, List.drop_length]; rfl
set_option maxRecDepth 100000 in
set_option maxHeartbeats 8000000 in
theorem mstop_any (w : World) (nm v3 v4 v5 v7 v8 : Value) (ha ma sa : Option Addr) (hn hc mn mc sn sc : Nat) (rr : Nat) (va fa ta pa ea : Option Addr) (vn vc fn fc tn tc pn pc en ec : Nat) (o : Bool) (c : Int) (b : Nat) (h : IsB w b 120 #[nm, .slice ha hn hc, .slice ma mn mc, v3, v4, v5, .slice sa sn sc, v7, v8, .pointer (some ⟨rr, 0, none⟩), .slice va vn vc, .slice fa fn fc, .slice ta tn tc, .slice pa pn pc, .slice ea en ec, .bool o, .int .i64 c]) (e : Int) : Calls Try.prog 110 #[.pointer (some ⟨b, 0, none⟩), .int .i64 e] w (fun e' w' => e' = .returned (.tuple #[]) ∧ IsB w' b 120 #[nm, .slice ha hn hc, .slice ma mn mc, v3, v4, v5, .slice sa sn sc, v7, v8, .pointer (some ⟨rr, 0, none⟩), .slice va vn vc, .slice fa fn fc, .slice ta tn tc, .slice pa pn pc, .slice ea en ec, .bool true, .int .i64 e] ∧ w.grownBy w' (some b)) := by
  have c15 := h.cell 15
  have c16 := h.cell 16
  dsimp at c15 c16
  have H1 := Lib.hid (show IsB (w.setCell ⟨b, 15, none⟩ (.bool true)) b 120 #[nm, .slice ha hn hc, .slice ma mn mc, v3, v4, v5, .slice sa sn sc, v7, v8, .pointer (some ⟨rr, 0, none⟩), .slice va vn vc, .slice fa fn fc, .slice ta tn tc, .slice pa pn pc, .slice ea en ec, .bool true, .int .i64 c] from h.set 15 (.bool true))
  have f15 := h.free 15
  have f16 := H1.out.free 16
  have d16 := H1.out.cell 16
  dsimp at d16
  have H2 := Lib.hid (show IsB ((w.setCell ⟨b, 15, none⟩ (.bool true)).setCell ⟨b, 16, none⟩ (.int .i64 e)) b 120 #[nm, .slice ha hn hc, .slice ma mn mc, v3, v4, v5, .slice sa sn sc, v7, v8, .pointer (some ⟨rr, 0, none⟩), .slice va vn vc, .slice fa fn fc, .slice ta tn tc, .slice pa pn pc, .slice ea en ec, .bool true, .int .i64 e] from H1.out.set 16 (.int .i64 e))
  have G1 := Lib.hid (gb_trans (gb_set w b 15 (.bool true)) (gb_set (w.setCell ⟨b, 15, none⟩ (.bool true)) b 16 (.int .i64 e)))
  clear h H1
  go_enter Try.func110, Try.ntmps110
  go_wp2
  go_end0
  exact ⟨rfl, H2.out, G1.out⟩
set_option maxRecDepth 100000 in
set_option maxHeartbeats 8000000 in
theorem mnext_any (w : World) (nm v3 v4 v5 v7 v8 : Value) (ha ma sa : Option Addr) (hn hc mn mc sn sc : Nat) (rr : Nat) (va fa ta pa ea : Option Addr) (vn vc fn fc tn tc pn pc en ec : Nat) (o : Bool) (c : Int) (b : Nat) (h : IsB w b 120 #[nm, .slice ha hn hc, .slice ma mn mc, v3, v4, v5, .slice sa sn sc, v7, v8, .pointer (some ⟨rr, 0, none⟩), .slice va vn vc, .slice fa fn fc, .slice ta tn tc, .slice pa pn pc, .slice ea en ec, .bool o, .int .i64 c]) (L : EL) (hV : SB w va vn vc L.V) (hF : SR w fa fn fc L.F) (hT : SU w ta tn tc L.T) (s0 : ByteArray) (xa ca : Option Addr) (xn xc cn cc : Nat) (sl : Bool) (h9 f9 df : Int) (cs : List Cse) (hcs : SCa w ca cn cc cs) (hcn : cn ≤ 100000) :
    Calls Try.prog 112 #[.pointer (some ⟨b, 0, none⟩), .agg #[.string s0, .slice xa xn xc, .bool sl, .int .i64 h9, .int .i64 f9, .slice ca cn cc, .int .i64 df]] w (RetV (.int .i64 (pNext cs df (getE L.V L.F L.T h9 f9))) w) := by
  have KG := Lib.hid (fun (W : World) (q : w.grownBy W none) => eget_any W (.slice pa pn pc) va fa ta vn vc fn fc tn tc L.V L.F L.T (hV.keep0 q) (hF.keep0 q) (hT.keep0 q) h9 f9)
  generalize getE L.V L.F L.T h9 f9 = v at *
  unfold RetV at KG
  have HC := Lib.hid hcs
  have LC := Lib.hid hcs.len
  have CN := Lib.hid hcn
  have HIT := Lib.hid (fun (k : Nat) (hk : k < cn) => pNext_hit (cs := cs) (df := df) (v := v) (k := k) (by rw [hcs.len]; exact hk))
  have NON := Lib.hid (fun (q : ∀ i, i < cn → hitB v (cs.getD i csz) = false) => pNext_none (cs := cs) (df := df) (v := v) (by rw [hcs.len]; exact q))
  generalize pNext cs df v = r at *
  have G1 := Lib.hid (gb_alloc w (.cells #[.string s0, .slice xa xn xc, .bool sl, .int .i64 h9, .int .i64 f9, .slice ca cn cc, .int .i64 df] 55) none)
  have B1 := IsB.new w 55 #[.string s0, .slice xa xn xc, .bool sl, .int .i64 h9, .int .i64 f9, .slice ca cn cc, .int .i64 df]
  replace B1 := Lib.hid B1
  have BM := Lib.hid (h.alloc (.cells #[.string s0, .slice xa xn xc, .bool sl, .int .i64 h9, .int .i64 f9, .slice ca cn cc, .int .i64 df] 55))
  clear hV hF hT hcs hcn h
  go_enter Try.func112, Try.ntmps112
  go_upto_region 1 with fail
  generalize w.alloc (.cells #[.string s0, .slice xa xn xc, .bool sl, .int .i64 h9, .int .i64 f9, .slice ca cn cc, .int .i64 df] 55) = w1 at *
  obtain ⟨bx, hbx⟩ : ∃ b, b = w.heap.size := ⟨_, rfl⟩
  have Lbx := Lib.hid (show w.heap.size ≤ bx by rw [hbx]; exact Nat.le_refl _)
  rw [← hbx] at B1 ⊢
  clear hbx
  have KR := Lib.hid (fun (w' : World) (q0 : w1.grownBy w' none) => (⟨(BM.out.keep0 q0).cell 0, (BM.out.keep0 q0).cell 1, (BM.out.keep0 q0).cell 2, (BM.out.keep0 q0).cell 3, (BM.out.keep0 q0).cell 4, (BM.out.keep0 q0).cell 5, (BM.out.keep0 q0).cell 6, (BM.out.keep0 q0).cell 7, (BM.out.keep0 q0).cell 8, (BM.out.keep0 q0).cell 9, (BM.out.keep0 q0).cell 10, (BM.out.keep0 q0).cell 11, (BM.out.keep0 q0).cell 12, (BM.out.keep0 q0).cell 13, (BM.out.keep0 q0).cell 14, (BM.out.keep0 q0).cell 15, (BM.out.keep0 q0).cell 16, (B1.out.keep0 q0).cell 0, (B1.out.keep0 q0).cell 1, (B1.out.keep0 q0).cell 2, (B1.out.keep0 q0).cell 3, (B1.out.keep0 q0).cell 4, (B1.out.keep0 q0).cell 5, (B1.out.keep0 q0).cell 6, q0⟩ : (fun w' : World => w'.cell? ⟨b, 0, none⟩ = some (nm) ∧ w'.cell? ⟨b, 1, none⟩ = some (.slice ha hn hc) ∧ w'.cell? ⟨b, 2, none⟩ = some (.slice ma mn mc) ∧ w'.cell? ⟨b, 3, none⟩ = some (v3) ∧ w'.cell? ⟨b, 4, none⟩ = some (v4) ∧ w'.cell? ⟨b, 5, none⟩ = some (v5) ∧ w'.cell? ⟨b, 6, none⟩ = some (.slice sa sn sc) ∧ w'.cell? ⟨b, 7, none⟩ = some (v7) ∧ w'.cell? ⟨b, 8, none⟩ = some (v8) ∧ w'.cell? ⟨b, 9, none⟩ = some (.pointer (some ⟨rr, 0, none⟩)) ∧ w'.cell? ⟨b, 10, none⟩ = some (.slice va vn vc) ∧ w'.cell? ⟨b, 11, none⟩ = some (.slice fa fn fc) ∧ w'.cell? ⟨b, 12, none⟩ = some (.slice ta tn tc) ∧ w'.cell? ⟨b, 13, none⟩ = some (.slice pa pn pc) ∧ w'.cell? ⟨b, 14, none⟩ = some (.slice ea en ec) ∧ w'.cell? ⟨b, 15, none⟩ = some (.bool o) ∧ w'.cell? ⟨b, 16, none⟩ = some (.int .i64 c) ∧ w'.cell? ⟨bx, 0, none⟩ = some (.string s0) ∧ w'.cell? ⟨bx, 1, none⟩ = some (.slice xa xn xc) ∧ w'.cell? ⟨bx, 2, none⟩ = some (.bool sl) ∧ w'.cell? ⟨bx, 3, none⟩ = some (.int .i64 h9) ∧ w'.cell? ⟨bx, 4, none⟩ = some (.int .i64 f9) ∧ w'.cell? ⟨bx, 5, none⟩ = some (.slice ca cn cc) ∧ w'.cell? ⟨bx, 6, none⟩ = some (.int .i64 df) ∧ w1.grownBy w' none) w'))
  have R0 := Lib.hid (gb_drew w1 none)
  refine wp_region_held_drew (S := (fun w' : World => w'.cell? ⟨b, 0, none⟩ = some (nm) ∧ w'.cell? ⟨b, 1, none⟩ = some (.slice ha hn hc) ∧ w'.cell? ⟨b, 2, none⟩ = some (.slice ma mn mc) ∧ w'.cell? ⟨b, 3, none⟩ = some (v3) ∧ w'.cell? ⟨b, 4, none⟩ = some (v4) ∧ w'.cell? ⟨b, 5, none⟩ = some (v5) ∧ w'.cell? ⟨b, 6, none⟩ = some (.slice sa sn sc) ∧ w'.cell? ⟨b, 7, none⟩ = some (v7) ∧ w'.cell? ⟨b, 8, none⟩ = some (v8) ∧ w'.cell? ⟨b, 9, none⟩ = some (.pointer (some ⟨rr, 0, none⟩)) ∧ w'.cell? ⟨b, 10, none⟩ = some (.slice va vn vc) ∧ w'.cell? ⟨b, 11, none⟩ = some (.slice fa fn fc) ∧ w'.cell? ⟨b, 12, none⟩ = some (.slice ta tn tc) ∧ w'.cell? ⟨b, 13, none⟩ = some (.slice pa pn pc) ∧ w'.cell? ⟨b, 14, none⟩ = some (.slice ea en ec) ∧ w'.cell? ⟨b, 15, none⟩ = some (.bool o) ∧ w'.cell? ⟨b, 16, none⟩ = some (.int .i64 c) ∧ w'.cell? ⟨bx, 0, none⟩ = some (.string s0) ∧ w'.cell? ⟨bx, 1, none⟩ = some (.slice xa xn xc) ∧ w'.cell? ⟨bx, 2, none⟩ = some (.bool sl) ∧ w'.cell? ⟨bx, 3, none⟩ = some (.int .i64 h9) ∧ w'.cell? ⟨bx, 4, none⟩ = some (.int .i64 f9) ∧ w'.cell? ⟨bx, 5, none⟩ = some (.slice ca cn cc) ∧ w'.cell? ⟨bx, 6, none⟩ = some (.int .i64 df) ∧ w1.grownBy w' none)) (by kernel_rfl) (KR.out _ R0.out) (fun hH0 => ?_)
  refine wpAnyH_take (i := 0) (v := ?v1) rfl (by kernel_rfl) (by kernel_rfl) (by kernel_rfl) (fun _ _ _ h => h) (Or.inl ⟨by rfl, ?hy1⟩) (by assumption) ?rest1
  case hy1 => (intro wz hSw; (try dsimp only at hSw); first | (go_simp; done) | (go_simp; with_reducible rfl))
  try simp only [Act.put, List.getElem_toArray, List.getElem_cons_zero, List.setIfInBounds_toArray, List.set_cons_zero, List.set_cons_succ]
  refine wpAnyH_take (i := 1) (v := ?v2) rfl (by kernel_rfl) (by kernel_rfl) (by kernel_rfl) (fun _ _ _ h => h) (Or.inl ⟨by rfl, ?hy2⟩) (by assumption) ?rest2
  case hy2 => (intro wz hSw; (try dsimp only at hSw); first | (go_simp; done) | (go_simp; with_reducible rfl))
  try simp only [Act.put, List.getElem_toArray, List.getElem_cons_succ, List.getElem_cons_zero, List.setIfInBounds_toArray, List.set_cons_zero, List.set_cons_succ]
  refine wpAnyH_take (i := 2) (v := ?v3) rfl (by kernel_rfl) (by kernel_rfl) (by kernel_rfl) (fun _ _ _ h => h) (Or.inl ⟨by rfl, ?hy3⟩) (by assumption) ?rest3
  case hy3 => (intro wz hSw; (try dsimp only at hSw); first | (go_simp; done) | (go_simp; with_reducible rfl))
  try simp only [Act.put, List.getElem_toArray, List.getElem_cons_succ, List.getElem_cons_zero, List.setIfInBounds_toArray, List.set_cons_zero, List.set_cons_succ]
  refine wpAnyH_take (i := 3) (v := ?v4) rfl (by kernel_rfl) (by kernel_rfl) (by kernel_rfl) (fun _ _ _ h => h) (Or.inl ⟨by rfl, ?hy4⟩) (by assumption) ?rest4
  case hy4 => (intro wz hSw; (try dsimp only at hSw); first | (go_simp; done) | (go_simp; with_reducible rfl))
  try simp only [Act.put, List.getElem_toArray, List.getElem_cons_succ, List.getElem_cons_zero, List.setIfInBounds_toArray, List.set_cons_zero, List.set_cons_succ]
  refine wpAnyH_take (i := 4) (v := ?v5) rfl (by kernel_rfl) (by kernel_rfl) (by kernel_rfl) (fun _ _ _ h => h) (Or.inl ⟨by rfl, ?hy5⟩) (by assumption) ?rest5
  case hy5 => (intro wz hSw; (try dsimp only at hSw); first | (go_simp; done) | (go_simp; with_reducible rfl))
  try simp only [Act.put, List.getElem_toArray, List.getElem_cons_succ, List.getElem_cons_zero, List.setIfInBounds_toArray, List.set_cons_zero, List.set_cons_succ]
  refine wpAnyH_take (i := 5) (v := ?v6) rfl (by kernel_rfl) (by kernel_rfl) (by kernel_rfl) (fun _ _ _ h => h) (Or.inl ⟨by rfl, ?hy6⟩) (by assumption) ?rest6
  case hy6 => (intro wz hSw; (try dsimp only at hSw); first | (go_simp; done) | (go_simp; with_reducible rfl))
  try simp only [Act.put, List.getElem_toArray, List.getElem_cons_succ, List.getElem_cons_zero, List.setIfInBounds_toArray, List.set_cons_zero, List.set_cons_succ]
  refine wpAnyH_ready (rs := [6]) (by kernel_rfl) (by simp) ?_
  refine AllReadyH.cons (o := _) rfl (fun K hK => ?_) AllReadyH.nil
  go_simp
  (with_reducible refine (KG.out _ (gb_trans G1.out R0.out)).mono ?_)
  rintro e rw1 ⟨rfl, g⟩
  have R1 := Lib.hid (gb_trans R0.out g)
  clear g
  try dsimp only
  refine hK.out _ _ (KR.out _ R1.out) (fun hH1 => ?_)
  clear hK K hH0
  try simp only [Act.put, List.getElem_toArray, List.getElem_cons_succ, List.getElem_cons_zero, List.setIfInBounds_toArray, List.set_cons_zero, List.set_cons_succ]
  refine wpAnyH_take (i := 7) (v := ?v7) rfl (by kernel_rfl) (by kernel_rfl) (by kernel_rfl) (fun _ _ _ h => h) (Or.inl ⟨by rfl, ?hy7⟩) (by assumption) ?rest7
  case hy7 => (intro wz hSw; (try dsimp only at hSw); first | (go_simp; done) | (go_simp; with_reducible rfl))
  try simp only [Act.put, List.getElem_toArray, List.getElem_cons_succ, List.getElem_cons_zero, List.setIfInBounds_toArray, List.set_cons_zero, List.set_cons_succ]
  refine wpAnyH_done (by kernel_rfl) ?_ _
  clear hH1
  have GA := Lib.hid R1.out
  have x0 := (B1.out.keep0 GA.out).cell 0
  have x1 := (B1.out.keep0 GA.out).cell 1
  have x2 := (B1.out.keep0 GA.out).cell 2
  have x3 := (B1.out.keep0 GA.out).cell 3
  have x4 := (B1.out.keep0 GA.out).cell 4
  have x5 := (B1.out.keep0 GA.out).cell 5
  have x6 := (B1.out.keep0 GA.out).cell 6
  dsimp at x0 x1 x2 x3 x4 x5 x6
  go_wp2
  clear x0 x1 x2 x3 x4 x5 x6
  go_loopw [18] (fun i9 wr => ∃ j : Nat, j ≤ cn ∧ i9 = .int .i64 j ∧ (∀ i, i < j → hitB v (cs.getD i csz) = false) ∧ w1.grownBy wr none) (fun i9 _ => cn - (intOf i9).toNat)
  case atStart => exact ⟨0, Nat.zero_le _, rfl, fun i hi => absurd hi (Nat.not_lt_zero _), GA.out⟩
  case round =>
    obtain ⟨j, hj, rfl, ht, hg⟩ := hrel
    have HT := Lib.hid ht
    have HG := Lib.hid hg
    clear ht hg
    have x0 := (B1.out.keep0 HG.out).cell 0
    have x1 := (B1.out.keep0 HG.out).cell 1
    have x2 := (B1.out.keep0 HG.out).cell 2
    have x3 := (B1.out.keep0 HG.out).cell 3
    have x4 := (B1.out.keep0 HG.out).cell 4
    have x5 := (B1.out.keep0 HG.out).cell 5
    have x6 := (B1.out.keep0 HG.out).cell 6
    dsimp at x0 x1 x2 x3 x4 x5 x6
    by_cases hlt : j < cn
    · obtain ⟨cd, hcd⟩ := HC.out.some (by omega)
      subst hcd
      obtain ⟨⟨y0, y1, y2⟩, ⟨y3, y4, y5⟩, y6⟩ := (HC.out.keep0SCa (gb_trans G1.out HG.out)).cells cd rfl j hlt
      have j1 : (j : Int) < cn := by omega
      have j0 : (0 : Int) ≤ (j : Int) := by omega
      have hw : IntKind.i64.wrap ((j : Int) + 1) = ((j + 1 : Nat) : Int) := by have := CN.out; rw [IntKind.wrap_i64]; omega
      have HJ := Lib.hid (HIT.out j hlt HT.out)
      have NX := Lib.hid (show hitB v (cs.getD j csz) = false → ∀ i, i < j + 1 → hitB v (cs.getD i csz) = false from fun q i hi => by
        rcases (show i < j ∨ i = j by omega) with r | rfl
        · exact HT.out i r
        · exact q)
      generalize cs.getD j csz = c9 at *
      obtain ⟨xv, xm, xn9⟩ := c9
      dsimp only at y0 y1 y2 y3 y4 y5 y6
      have GB := Lib.hid (gb_alloc wr (.cells #[.int .u32 xv, .int .u32 xm, .int .i64 xn9] 114) none)
      have B3 := Lib.hid (IsB.new wr 114 #[.int .u32 xv, .int .u32 xm, .int .i64 xn9])
      clear y1 y2 y4 y5
      go_upto_region 5 with fail
      generalize wr.alloc (.cells #[.int .u32 xv, .int .u32 xm, .int .i64 xn9] 114) = w5 at *
      generalize wr.heap.size = b7 at *
      have G5 := Lib.hid (gb_trans HG.out GB.out)
      clear y0 y3 y6
      have y0 := (B3.out.keep0 (gb_refl _ _)).cell 0
      have y1 := (B3.out.keep0 (gb_refl _ _)).cell 1
      have y2 := (B3.out.keep0 (gb_refl _ _)).cell 2
      dsimp at y0 y1 y2
      cases hq : hitB v ⟨xv, xm, xn9⟩
      · have q0 : (bits .and .u32 (bits .xor .u32 v xv) xm == 0) = false := hq
        have Z := Lib.hid (NX.out hq)
        clear hq
        go_wp2
        go_roundw
        case rel => exact ⟨j + 1, by omega, by go_num, Z.out, G5.out⟩
        case measure => simp [intOf]; omega
      · have q0 : (bits .and .u32 (bits .xor .u32 v xv) xm == 0) = true := hq
        have Z := Lib.hid (show r = xn9 from HJ.out hq)
        clear hq
        go_wp2
        go_ret
        exact ⟨by rw [Z.out] <;> rfl, gb_trans G1.out G5.out⟩
    · have hje : j = cn := by omega
      have j1 : ¬ (j : Int) < cn := by omega
      have Z := Lib.hid (show r = df from NON.out (by rw [← hje]; exact HT.out))
      go_wp2
      go_ret
      exact ⟨by rw [Z.out] <;> rfl, gb_trans G1.out HG.out⟩
end Go.Proofs.Ytjhknmklejkknaa
end
section
namespace Go.Proofs.Ytjhknmklejkknaa
open Go.RowKit
set_option linter.unusedVariables false
/-- How follow leaves the world: it appends to the states, then stores into the machine; or it stops the machine. -/
inductive FwR (w : World) (b eb : Nat) (V : Value) (X : List Int) (x : Int) (M0 : Array Value) (M1 : Value → Array Value) (M2 : Int → Array Value) : World → Prop
  | stop (w' : World) (e : Int) (h : (x = -2 ∧ e = 15) ∨ (x = -1 ∧ e = 0)) (m : IsB w' b 120 (M2 e)) (g : w.grownBy w' (some b)) : FwR w b eb V X x M0 M1 M2 w'
  | go (w1 w' : World) (V' : Value) (h2 : x ≠ -2) (h1 : x ≠ -1) (g1 : w.grownBy w1 V.ownBlock) (m1 : IsB w1 b 120 M0) (n1 : NL w1 eb V' (X ++ [x])) (g2 : w1.grownBy w' (some b)) (m2 : IsB w' b 120 (M1 V')) (n2 : NL w' eb V' (X ++ [x])) : FwR w b eb V X x M0 M1 M2 w'
set_option maxRecDepth 100000 in
set_option maxHeartbeats 8000000 in
theorem mfollow_any (w : World) (nm v3 v4 v5 v7 v8 : Value) (ha ma sa : Option Addr) (hn hc mn mc sn sc : Nat) (rr : Nat) (va fa ta pa ea : Option Addr) (vn vc fn fc tn tc pn pc en ec : Nat) (o : Bool) (c : Int) (b : Nat) (h : IsB w b 120 #[nm, .slice ha hn hc, .slice ma mn mc, v3, v4, v5, .slice sa sn sc, v7, v8, .pointer (some ⟨rr, 0, none⟩), .slice va vn vc, .slice fa fn fc, .slice ta tn tc, .slice pa pn pc, .slice ea en ec, .bool o, .int .i64 c]) (eb : Nat) (X : List Int) (hX : NL w eb (.slice ea en ec) X) (hen : en = X.length) (heb : eb ≤ w.heap.size) (hxl : X.length ≤ 1000) (x : Int) :
    Calls Try.prog 111 #[.pointer (some ⟨b, 0, none⟩), .int .i64 x] w (fun e w' => e = .returned (.tuple #[]) ∧ FwR w b eb (.slice ea en ec) X x #[nm, .slice ha hn hc, .slice ma mn mc, v3, v4, v5, .slice sa sn sc, v7, v8, .pointer (some ⟨rr, 0, none⟩), .slice va vn vc, .slice fa fn fc, .slice ta tn tc, .slice pa pn pc, .slice ea en ec, .bool o, .int .i64 c] (fun V' => #[nm, .slice ha hn hc, .slice ma mn mc, v3, v4, v5, .slice sa sn sc, v7, v8, .pointer (some ⟨rr, 0, none⟩), .slice va vn vc, .slice fa fn fc, .slice ta tn tc, .slice pa pn pc, V', .bool o, .int .i64 c]) (fun e9 => #[nm, .slice ha hn hc, .slice ma mn mc, v3, v4, v5, .slice sa sn sc, v7, v8, .pointer (some ⟨rr, 0, none⟩), .slice va vn vc, .slice fa fn fc, .slice ta tn tc, .slice pa pn pc, .slice ea en ec, .bool true, .int .i64 e9]) w') := by
  by_cases h2 : x = -2
  · have q2 : (x == -2) = true := by simp [h2]
    have KS := Lib.hid (mstop_any w nm v3 v4 v5 v7 v8 ha ma sa hn hc mn mc sn sc rr va fa ta pa ea vn vc fn fc tn tc pn pc en ec o c b h 15)
    clear h hX
    go_enter Try.func111, Try.ntmps111
    go_wp2_with fail
    refine KS.out.mono ?_
    rintro e9 w2 ⟨rfl, m, g⟩
    have M2 := Lib.hid m
    have G2 := Lib.hid g
    clear m g
    go_wp2
    go_end0
    exact ⟨rfl, .stop w2 15 (.inl ⟨h2, rfl⟩) M2.out G2.out⟩
  have q2 : (x == -2) = false := by simp [h2]
  by_cases h1 : x = -1
  · have q1 : (x == -1) = true := by simp [h1]
    have KS := Lib.hid (mstop_any w nm v3 v4 v5 v7 v8 ha ma sa hn hc mn mc sn sc rr va fa ta pa ea vn vc fn fc tn tc pn pc en ec o c b h 0)
    clear h hX
    go_enter Try.func111, Try.ntmps111
    go_wp2_with fail
    refine KS.out.mono ?_
    rintro e9 w2 ⟨rfl, m, g⟩
    have M2 := Lib.hid m
    have G2 := Lib.hid g
    clear m g
    go_wp2
    go_end0
    exact ⟨rfl, .stop w2 0 (.inr ⟨h1, rfl⟩) M2.out G2.out⟩
  have q1 : (x == -1) = false := by simp [h1]
  obtain ⟨i0, hi, hz0, hz1, hz2⟩ := info_parts infoI64'
  have HI := Lib.hid hi
  have c14 := h.cell 14
  dsimp at c14
  have BM := Lib.hid (h.alloc (.cells #[.int .i64 x] 3))
  have c14' := BM.out.cell 14
  dsimp at c14'
  have XN := Lib.hid (own_keep0 hX (gb_alloc w (.cells #[.int .i64 x] 3) none))
  have NE := Lib.hid (show (Value.slice ea en ec).ownBlock ≠ some b from own_ne hX h (by decide))
  have HE := Lib.hid heb
  have HL := Lib.hid hxl
  have GA := Lib.hid (gb_alloc w (.cells #[.int .i64 x] 3) none)
  have CX := Lib.hid (IsB.new w 3 #[.int .i64 x])
  subst hen
  clear h hX heb hxl hi c14'
  go_enter Try.func111, Try.ntmps111
  go_wp2_with (at_builtin; refine wpList_append_own_at _ rfl _ _ 29 rfl eb 3 i0 (.int .i64 0) 1 8 Try.underlying29 HI.out hz0 hz1 hz2 rfl (by decide) _ X.length (X.map (Value.int .i64)) rfl XN.out ⟨w.heap.size, 0, none⟩ 1 1 [.int .i64 x] rfl rfl ?k1 ?k2 ?k3 ?k4 ?k5 ?_)
  case k1 =>
    intro j u hj
    match j, hj with
    | 0, hj => simp at hj; subst hj; have := CX.out.cell 0; simp [Addr.add]
  case k2 => intro u hu; simp at hu; subst hu; rfl
  case k3 => unfold maxLen; have := HL.out; omega
  case k4 => have := HL.out; omega
  case k5 => have := HE.out; simp; omega
  intro V2 w1 hown hgrow _ _
  obtain ⟨ya, yc, hV2⟩ := own_shape hown
  subst hV2
  have M1 := Lib.hid (BM.out.keep hgrow (fun e => NE.out e.symm))
  have N1 := Lib.hid (show NL w1 eb (.slice ya (X.length + 1) yc) (X ++ [x]) by unfold NL; simpa using hown)
  have GG1 := Lib.hid (gb_trans (gb_any GA.out) hgrow)
  have f14 := M1.out.free 14
  have d14 := M1.out.cell 14
  dsimp at d14
  have M2 := Lib.hid (show IsB (w1.setCell ⟨b, 14, none⟩ (.slice ya (X.length + 1) yc)) b 120 #[nm, .slice ha hn hc, .slice ma mn mc, v3, v4, v5, .slice sa sn sc, v7, v8, .pointer (some ⟨rr, 0, none⟩), .slice va vn vc, .slice fa fn fc, .slice ta tn tc, .slice pa pn pc, .slice ya (X.length + 1) yc, .bool o, .int .i64 c] from M1.out.set 14 (.slice ya (X.length + 1) yc))
  have GG2 := Lib.hid (gb_set w1 b 14 (.slice ya (X.length + 1) yc))
  have N2 := Lib.hid (show NL (w1.setCell ⟨b, 14, none⟩ (.slice ya (X.length + 1) yc)) eb (.slice ya (X.length + 1) yc) (X ++ [x]) from own_keepS N1.out GG2.out M1.out (by decide))
  clear hown hgrow BM XN NE GA CX HI
  go_wp2
  go_end0
  exact ⟨rfl, .go w1 _ (.slice ya (X.length + 1) yc) h2 h1 GG1.out M1.out N1.out GG2.out M2.out N2.out⟩
end Go.Proofs.Ytjhknmklejkknaa
end
