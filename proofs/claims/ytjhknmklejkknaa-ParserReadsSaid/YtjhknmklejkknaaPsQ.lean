/- Parser: the machine: step; no condition but sizes. -/
import Derived.Test.YtjhknmklejkknaaPsP
import Derived.BigQuiet
import Derived.BigRegion
namespace Go.Proofs.Ytjhknmklejkknaa
open Go.RowKit
set_option linter.unusedVariables false
/-- What a step leaves. -/
def StR (W : World) (nm v3 v4 v5 v7 v8 : Value) (ha ma sa : Option Addr) (hn hc mn mc sn sc : Nat) (va fa ta pa ea : Option Addr) (vn vc fn fc tn tc pn pc en ec : Nat) (b r s : Nat) (V : Value) (bs : List Int) (st : List Int) (o : Bool) (c : Int) (R : Int × EL × Nat) (x : Int) (w' : World) : Prop :=
  (R.1 ≠ 0 ∧ ∃ Vs', MSt W b r s #[nm, .slice ha hn hc, .slice ma mn mc, v3, v4, v5, .slice sa sn sc, v7, v8, .pointer (some ⟨r, 0, none⟩), .slice va vn vc, .slice fa fn fc, .slice ta tn tc, .slice pa pn pc, .slice ea en ec, .bool true, .int .i64 R.1] V bs R.2.2 ⟨va, fa, ta, pa, vn, vc, fn, fc, tn, tc, pn, pc⟩ R.2.1 Vs' (.slice ea en ec) st w') ∨
  (R.1 = 0 ∧ x = -2 ∧ ∃ Vs', MSt W b r s #[nm, .slice ha hn hc, .slice ma mn mc, v3, v4, v5, .slice sa sn sc, v7, v8, .pointer (some ⟨r, 0, none⟩), .slice va vn vc, .slice fa fn fc, .slice ta tn tc, .slice pa pn pc, .slice ea en ec, .bool true, .int .i64 15] V bs R.2.2 ⟨va, fa, ta, pa, vn, vc, fn, fc, tn, tc, pn, pc⟩ R.2.1 Vs' (.slice ea en ec) st w') ∨
  (R.1 = 0 ∧ x = -1 ∧ ∃ Vs', MSt W b r s #[nm, .slice ha hn hc, .slice ma mn mc, v3, v4, v5, .slice sa sn sc, v7, v8, .pointer (some ⟨r, 0, none⟩), .slice va vn vc, .slice fa fn fc, .slice ta tn tc, .slice pa pn pc, .slice ea en ec, .bool true, .int .i64 0] V bs R.2.2 ⟨va, fa, ta, pa, vn, vc, fn, fc, tn, tc, pn, pc⟩ R.2.1 Vs' (.slice ea en ec) st w') ∨
  (R.1 = 0 ∧ x ≠ -2 ∧ x ≠ -1 ∧ ∃ Vs' e2 n2 c2, MSt W b r s #[nm, .slice ha hn hc, .slice ma mn mc, v3, v4, v5, .slice sa sn sc, v7, v8, .pointer (some ⟨r, 0, none⟩), .slice va vn vc, .slice fa fn fc, .slice ta tn tc, .slice pa pn pc, .slice e2 n2 c2, .bool o, .int .i64 c] V bs R.2.2 ⟨va, fa, ta, pa, vn, vc, fn, fc, tn, tc, pn, pc⟩ R.2.1 Vs' (.slice e2 n2 c2) (st ++ [x]) w')
set_option maxRecDepth 100000 in
set_option maxHeartbeats 8000000 in
theorem mcstep_any (W w : World) (nm v3 v4 v5 v7 v8 : Value) (ha ma sa : Option Addr) (hn hc mn mc sn sc : Nat) (va fa ta pa ea : Option Addr) (vn vc fn fc tn tc pn pc en ec : Nat) (b r s : Nat) (V : Value) (bs : List Int) (pos : Nat) (L : EL) (Vs : List Value) (st : List Int) (o : Bool) (c : Int) (hm : MSt W b r s #[nm, .slice ha hn hc, .slice ma mn mc, v3, v4, v5, .slice sa sn sc, v7, v8, .pointer (some ⟨r, 0, none⟩), .slice va vn vc, .slice fa fn fc, .slice ta tn tc, .slice pa pn pc, .slice ea en ec, .bool o, .int .i64 c] V bs pos ⟨va, fa, ta, pa, vn, vc, fn, fc, tn, tc, pn, pc⟩ L Vs (.slice ea en ec) st w) (H : List (ByteArray × List Fld)) (S : List Pst) (hH : SH W ha hn hc H) (hS : SPs W sa sn sc S) (hz9 : HZ H) (hb : ∀ x ∈ bs, 0 ≤ x ∧ x ≤ 255) (hbl : bs.length ≤ 60000) (hp : pos ≤ 8 * bs.length) (h8 : pos % 8 = 0)
    (m : Nat) (hen : en = m + 1) (hst : st.length = en) (hst2 : st.length ≤ 1000) (i : Nat) (hi : i < sn) (hli : st.getD m 0 = (i : Int)) (hex : ∀ x ∈ (S.getD i psz).ex, ∃ k : Nat, x = (k : Int) ∧ k < hn) (hv : vn = hn) (hf : fn = hn) (he9 : (S.getD i psz).ex.length ≤ 1000) (hc9 : (S.getD i psz).cs.length ≤ 1000) :
    Calls Try.prog 78 #[.pointer (some ⟨b, 0, none⟩)] w (fun e w' => e = .returned (.tuple #[]) ∧ StR W nm v3 v4 v5 v7 v8 ha ma sa hn hc mn mc sn sc va fa ta pa ea vn vc fn fc tn tc pn pc en ec b r s V bs st o c (pExs H bs (S.getD i psz).ex L pos) (pNext (S.getD i psz).cs (S.getD i psz).df (getE (pExs H bs (S.getD i psz).ex L pos).2.1.V (pExs H bs (S.getD i psz).ex L pos).2.1.F (pExs H bs (S.getD i psz).ex L pos).2.1.T (S.getD i psz).h (S.getD i psz).f)) w') := by
  obtain ⟨sd, rfl⟩ := hS.some (by omega)
  obtain ⟨k0, ⟨xa, xn, xc, k1, hX⟩, k2, k3, k4, ⟨ca, cn, cc, k5, hC⟩, k6⟩ := hS.cells sd rfl i hi
  have HM := Lib.hid hm
  have HH := Lib.hid hH
  have HZ9 := Lib.hid hz9
  have HB := Lib.hid hb
  have HBL := Lib.hid hbl
  have HP := Lib.hid hp
  have H8 := Lib.hid h8
  have HX := Lib.hid hX
  have LX := Lib.hid hX.len
  have HC := Lib.hid hC
  have LC := Lib.hid hC.len
  have HEX := Lib.hid hex
  have HV := Lib.hid hv
  have HF := Lib.hid hf
  have EL9 := Lib.hid he9
  have CL9 := Lib.hid hc9
  have SL9 := Lib.hid hst2
  have STL := Lib.hid hst
  obtain ⟨eg, egc, hea⟩ := own_head (show w.ownsRow W.heap.size 3 1 (.slice ea en ec) en (st.map (Value.int .i64)) by have z := hm.en; unfold NL at z; rw [hst] at z; exact z) (by omega)
  injection hea with hea _ _
  subst hea
  have ce : w.cell? ⟨eg, m, none⟩ = some (.int .i64 (i : Int)) := by
    have z := hm.en
    unfold NL at z
    have y := own_cell (show w.ownsRow W.heap.size 3 1 (.slice (some ⟨eg, 0, none⟩) st.length ec) st.length (st.map (Value.int .i64)) by rw [hst] at z ⊢; exact z) m (by omega)
    rw [hli] at y; exact y
  have hw1 : IntKind.i64.wrap ((en : Int) - 1) = (m : Int) := by rw [IntKind.wrap_i64]; omega
  have i1 : (m : Int) < en := by omega
  have i0 : (0 : Int) ≤ (m : Int) := by omega
  have i2 : (i : Int) < sn := by omega
  have i3 : (0 : Int) ≤ (i : Int) := by omega
  have f6 := hm.m.cell 6
  have f14 := hm.m.cell 14
  dsimp at f6 f14
  have z0 := hm.g.cell k0 (by simp)
  have z1 := hm.g.cell k1 (by simp)
  have z2 := hm.g.cell k2 (by simp)
  have z3 := hm.g.cell k3 (by simp)
  have z4 := hm.g.cell k4 (by simp)
  have z5 := hm.g.cell k5 (by simp)
  have z6 := hm.g.cell k6 (by simp)
  clear k0 k1 k2 k3 k4 k5 k6 hX hC hm hH hS hz9 hb hbl hp h8 hen hst hst2 hi hli hex hv hf he9 hc9
  generalize (S.getD i psz).nm = s0 at *
  generalize (S.getD i psz).ex = ex at *
  generalize (S.getD i psz).sl = sl at *
  generalize (S.getD i psz).h = h9 at *
  generalize (S.getD i psz).f = f9 at *
  generalize (S.getD i psz).cs = cs at *
  generalize (S.getD i psz).df = df at *
  go_enter Try.func78, Try.ntmps78
  go_upto_region 0 with fail
  have KR := Lib.hid (fun (w' : World) (q0 : w.grownBy w' none) => (⟨q0.cell f6 (by simp), q0.cell f14 (by simp), q0.cell ce (by simp), q0.cell z0 (by simp), q0.cell z1 (by simp), q0.cell z2 (by simp), q0.cell z3 (by simp), q0.cell z4 (by simp), q0.cell z5 (by simp), q0.cell z6 (by simp), q0⟩ : (fun w' : World => w'.cell? ⟨b, 6, none⟩ = some (.slice (some sd) sn sc) ∧ w'.cell? ⟨b, 14, none⟩ = some (.slice (some ⟨eg, 0, none⟩) en ec) ∧ w'.cell? ⟨eg, m, none⟩ = some (.int .i64 (i : Int)) ∧ w'.cell? (sd.add (i * 7)) = some (.string s0) ∧ w'.cell? ⟨(sd.add (i * 7)).block, (sd.add (i * 7)).off + 1, none⟩ = some (.slice xa xn xc) ∧ w'.cell? ⟨(sd.add (i * 7)).block, (sd.add (i * 7)).off + 2, none⟩ = some (.bool sl) ∧ w'.cell? ⟨(sd.add (i * 7)).block, (sd.add (i * 7)).off + 3, none⟩ = some (.int .i64 h9) ∧ w'.cell? ⟨(sd.add (i * 7)).block, (sd.add (i * 7)).off + 4, none⟩ = some (.int .i64 f9) ∧ w'.cell? ⟨(sd.add (i * 7)).block, (sd.add (i * 7)).off + 5, none⟩ = some (.slice ca cn cc) ∧ w'.cell? ⟨(sd.add (i * 7)).block, (sd.add (i * 7)).off + 6, none⟩ = some (.int .i64 df) ∧ w.grownBy w' none) w'))
  have R0 := Lib.hid (gb_drew w none)
  refine wp_region_held_drew (S := (fun w' : World => w'.cell? ⟨b, 6, none⟩ = some (.slice (some sd) sn sc) ∧ w'.cell? ⟨b, 14, none⟩ = some (.slice (some ⟨eg, 0, none⟩) en ec) ∧ w'.cell? ⟨eg, m, none⟩ = some (.int .i64 (i : Int)) ∧ w'.cell? (sd.add (i * 7)) = some (.string s0) ∧ w'.cell? ⟨(sd.add (i * 7)).block, (sd.add (i * 7)).off + 1, none⟩ = some (.slice xa xn xc) ∧ w'.cell? ⟨(sd.add (i * 7)).block, (sd.add (i * 7)).off + 2, none⟩ = some (.bool sl) ∧ w'.cell? ⟨(sd.add (i * 7)).block, (sd.add (i * 7)).off + 3, none⟩ = some (.int .i64 h9) ∧ w'.cell? ⟨(sd.add (i * 7)).block, (sd.add (i * 7)).off + 4, none⟩ = some (.int .i64 f9) ∧ w'.cell? ⟨(sd.add (i * 7)).block, (sd.add (i * 7)).off + 5, none⟩ = some (.slice ca cn cc) ∧ w'.cell? ⟨(sd.add (i * 7)).block, (sd.add (i * 7)).off + 6, none⟩ = some (.int .i64 df) ∧ w.grownBy w' none)) (by kernel_rfl) (KR.out _ R0.out) (fun hH0 => ?_)
  refine wpAnyH_take (i := 0) (v := ?v8) rfl (by kernel_rfl) (by kernel_rfl) (by kernel_rfl) (fun _ _ _ h => h) (Or.inl ⟨by rfl, ?hy8⟩) (by assumption) ?rest8
  case hy8 => (intro wz hSw; (try dsimp only at hSw); first | (go_simp; done) | (go_simp; with_reducible rfl))
  try simp only [Act.put, List.getElem_toArray, List.getElem_cons_zero, List.setIfInBounds_toArray, List.set_cons_zero, List.set_cons_succ]
  refine wpAnyH_take (i := 1) (v := ?v9) rfl (by kernel_rfl) (by kernel_rfl) (by kernel_rfl) (fun _ _ _ h => h) (Or.inl ⟨by rfl, ?hy9⟩) (by assumption) ?rest9
  case hy9 => (intro wz hSw; (try dsimp only at hSw); first | (go_simp; done) | (go_simp; with_reducible rfl))
  try simp only [Act.put, List.getElem_toArray, List.getElem_cons_succ, List.getElem_cons_zero, List.setIfInBounds_toArray, List.set_cons_zero, List.set_cons_succ]
  refine wpAnyH_take (i := 2) (v := ?v10) rfl (by kernel_rfl) (by kernel_rfl) (by kernel_rfl) (fun _ _ _ h => h) (Or.inl ⟨by rfl, ?hy10⟩) (by assumption) ?rest10
  case hy10 => (intro wz hSw; (try dsimp only at hSw); first | (go_simp; done) | (go_simp; with_reducible rfl))
  try simp only [Act.put, List.getElem_toArray, List.getElem_cons_succ, List.getElem_cons_zero, List.setIfInBounds_toArray, List.set_cons_zero, List.set_cons_succ]
  refine wpAnyH_take (i := 3) (v := ?v11) rfl (by kernel_rfl) (by kernel_rfl) (by kernel_rfl) (fun _ _ _ h => h) (Or.inl ⟨by rfl, ?hy11⟩) (by assumption) ?rest11
  case hy11 => (intro wz hSw; (try dsimp only at hSw); first | (go_simp; done) | (go_simp; with_reducible rfl))
  try simp only [Act.put, List.getElem_toArray, List.getElem_cons_succ, List.getElem_cons_zero, List.setIfInBounds_toArray, List.set_cons_zero, List.set_cons_succ]
  refine wpAnyH_take (i := 4) (v := ?v12) rfl (by kernel_rfl) (by kernel_rfl) (by kernel_rfl) (fun _ _ _ h => h) (Or.inl ⟨by rfl, ?hy12⟩) (by assumption) ?rest12
  case hy12 => (intro wz hSw; (try dsimp only at hSw); first | (go_simp; done) | (go_simp; with_reducible rfl))
  try simp only [Act.put, List.getElem_toArray, List.getElem_cons_succ, List.getElem_cons_zero, List.setIfInBounds_toArray, List.set_cons_zero, List.set_cons_succ]
  refine wpAnyH_take (i := 5) (v := ?v13) rfl (by kernel_rfl) (by kernel_rfl) (by kernel_rfl) (fun _ _ _ h => h) (Or.inl ⟨by rfl, ?hy13⟩) (by assumption) ?rest13
  case hy13 => (intro wz hSw; (try dsimp only at hSw); first | (go_simp; done) | (go_simp; with_reducible rfl))
  try simp only [Act.put, List.getElem_toArray, List.getElem_cons_succ, List.getElem_cons_zero, List.setIfInBounds_toArray, List.set_cons_zero, List.set_cons_succ]
  refine wpAnyH_take (i := 6) (v := ?v14) rfl (by kernel_rfl) (by kernel_rfl) (by kernel_rfl) (fun _ _ _ h => h) (Or.inl ⟨by rfl, ?hy14⟩) (by assumption) ?rest14
  case hy14 => (intro wz hSw; (try dsimp only at hSw); first | (go_simp; done) | (go_simp; with_reducible rfl))
  try simp only [Act.put, List.getElem_toArray, List.getElem_cons_succ, List.getElem_cons_zero, List.setIfInBounds_toArray, List.set_cons_zero, List.set_cons_succ]
  refine wpAnyH_take (i := 7) (v := ?v15) rfl (by kernel_rfl) (by kernel_rfl) (by kernel_rfl) (fun _ _ _ h => h) (Or.inl ⟨by rfl, ?hy15⟩) (by assumption) ?rest15
  case hy15 => (intro wz hSw; (try dsimp only at hSw); first | (go_simp; done) | (go_simp; with_reducible rfl))
  try simp only [Act.put, List.getElem_toArray, List.getElem_cons_succ, List.getElem_cons_zero, List.setIfInBounds_toArray, List.set_cons_zero, List.set_cons_succ]
  refine wpAnyH_take (i := 8) (v := ?v16) rfl (by kernel_rfl) (by kernel_rfl) (by kernel_rfl) (fun _ _ _ h => h) (Or.inl ⟨by rfl, ?hy16⟩) (by assumption) ?rest16
  case hy16 => (intro wz hSw; (try dsimp only at hSw); first | (go_simp; done) | (go_simp; with_reducible rfl))
  try simp only [Act.put, List.getElem_toArray, List.getElem_cons_succ, List.getElem_cons_zero, List.setIfInBounds_toArray, List.set_cons_zero, List.set_cons_succ]
  refine wpAnyH_take (i := 9) (v := ?v17) rfl (by kernel_rfl) (by kernel_rfl) (by kernel_rfl) (fun _ _ _ h => h) (Or.inl ⟨by rfl, ?hy17⟩) (by assumption) ?rest17
  case hy17 => (intro wz hSw; (try dsimp only at hSw); first | (go_simp; done) | (go_simp; with_reducible rfl))
  try simp only [Act.put, List.getElem_toArray, List.getElem_cons_succ, List.getElem_cons_zero, List.setIfInBounds_toArray, List.set_cons_zero, List.set_cons_succ]
  refine wpAnyH_take (i := 10) (v := ?v18) rfl (by kernel_rfl) (by kernel_rfl) (by kernel_rfl) (fun _ _ _ h => h) (Or.inl ⟨by rfl, ?hy18⟩) (by assumption) ?rest18
  case hy18 => (intro wz hSw; (try dsimp only at hSw); first | (go_simp; done) | (go_simp; with_reducible rfl))
  try simp only [Act.put, List.getElem_toArray, List.getElem_cons_succ, List.getElem_cons_zero, List.setIfInBounds_toArray, List.set_cons_zero, List.set_cons_succ]
  refine wpAnyH_take (i := 11) (v := ?v19) rfl (by kernel_rfl) (by kernel_rfl) (by kernel_rfl) (fun _ _ _ h => h) (Or.inl ⟨by rfl, ?hy19⟩) (by assumption) ?rest19
  case hy19 => (intro wz hSw; (try dsimp only at hSw); first | (go_simp; done) | (go_simp; with_reducible rfl))
  try simp only [Act.put, List.getElem_toArray, List.getElem_cons_succ, List.getElem_cons_zero, List.setIfInBounds_toArray, List.set_cons_zero, List.set_cons_succ]
  refine wpAnyH_take (i := 12) (v := ?v20) rfl (by kernel_rfl) (by kernel_rfl) (by kernel_rfl) (fun _ _ _ h => h) (Or.inl ⟨by rfl, ?hy20⟩) (by assumption) ?rest20
  case hy20 => (intro wz hSw; (try dsimp only at hSw); first | (go_simp; done) | (go_simp; with_reducible rfl))
  try simp only [Act.put, List.getElem_toArray, List.getElem_cons_succ, List.getElem_cons_zero, List.setIfInBounds_toArray, List.set_cons_zero, List.set_cons_succ]
  refine wpAnyH_take (i := 13) (v := ?v21) rfl (by kernel_rfl) (by kernel_rfl) (by kernel_rfl) (fun _ _ _ h => h) (Or.inl ⟨by rfl, ?hy21⟩) (by assumption) ?rest21
  case hy21 => (intro wz hSw; (try dsimp only at hSw); first | (go_simp; done) | (go_simp; with_reducible rfl))
  try simp only [Act.put, List.getElem_toArray, List.getElem_cons_succ, List.getElem_cons_zero, List.setIfInBounds_toArray, List.set_cons_zero, List.set_cons_succ]
  refine wpAnyH_take (i := 14) (v := ?v22) rfl (by kernel_rfl) (by kernel_rfl) (by kernel_rfl) (fun _ _ _ h => h) (Or.inl ⟨by rfl, ?hy22⟩) (by assumption) ?rest22
  case hy22 => (intro wz hSw; (try dsimp only at hSw); first | (go_simp; done) | (go_simp; with_reducible rfl))
  try simp only [Act.put, List.getElem_toArray, List.getElem_cons_succ, List.getElem_cons_zero, List.setIfInBounds_toArray, List.set_cons_zero, List.set_cons_succ]
  refine wpAnyH_take (i := 15) (v := ?v23) rfl (by kernel_rfl) (by kernel_rfl) (by kernel_rfl) (fun _ _ _ h => h) (Or.inl ⟨by rfl, ?hy23⟩) (by assumption) ?rest23
  case hy23 => (intro wz hSw; (try dsimp only at hSw); first | (go_simp; done) | (go_simp; with_reducible rfl))
  try simp only [Act.put, List.getElem_toArray, List.getElem_cons_succ, List.getElem_cons_zero, List.setIfInBounds_toArray, List.set_cons_zero, List.set_cons_succ]
  refine wpAnyH_take (i := 16) (v := ?v24) rfl (by kernel_rfl) (by kernel_rfl) (by kernel_rfl) (fun _ _ _ h => h) (Or.inl ⟨by rfl, ?hy24⟩) (by assumption) ?rest24
  case hy24 => (intro wz hSw; (try dsimp only at hSw); first | (go_simp; done) | (go_simp; with_reducible rfl))
  try simp only [Act.put, List.getElem_toArray, List.getElem_cons_succ, List.getElem_cons_zero, List.setIfInBounds_toArray, List.set_cons_zero, List.set_cons_succ]
  refine wpAnyH_take (i := 17) (v := ?v25) rfl (by kernel_rfl) (by kernel_rfl) (by kernel_rfl) (fun _ _ _ h => h) (Or.inl ⟨by rfl, ?hy25⟩) (by assumption) ?rest25
  case hy25 => (intro wz hSw; (try dsimp only at hSw); first | (go_simp; done) | (go_simp; with_reducible rfl))
  try simp only [Act.put, List.getElem_toArray, List.getElem_cons_succ, List.getElem_cons_zero, List.setIfInBounds_toArray, List.set_cons_zero, List.set_cons_succ]
  refine wpAnyH_take (i := 18) (v := ?v26) rfl (by kernel_rfl) (by kernel_rfl) (by kernel_rfl) (fun _ _ _ h => h) (Or.inl ⟨by rfl, ?hy26⟩) (by assumption) ?rest26
  case hy26 => (intro wz hSw; (try dsimp only at hSw); first | (go_simp; done) | (go_simp; with_reducible rfl))
  try simp only [Act.put, List.getElem_toArray, List.getElem_cons_succ, List.getElem_cons_zero, List.setIfInBounds_toArray, List.set_cons_zero, List.set_cons_succ]
  refine wpAnyH_ready (rs := [19]) (by kernel_rfl) (by simp) ?_
  refine AllReadyH.cons (o := _) rfl (fun K hK => ?_) AllReadyH.nil
  go_simp
  try dsimp only
  refine hK.out _ _ (KR.out _ (gb_trans R0.out (gb_alloc _ _ none))) (fun hH1 => ?_)
  clear hK K hH0
  try simp only [Act.put, List.getElem_toArray, List.getElem_cons_succ, List.getElem_cons_zero, List.setIfInBounds_toArray, List.set_cons_zero, List.set_cons_succ]
  refine wpAnyH_ready (rs := [20]) (by kernel_rfl) (by simp) ?_
  refine AllReadyH.cons (o := _) rfl (fun K hK => ?_) AllReadyH.nil
  go_simp
  try dsimp only
  refine hK.out _ _ (KR.out _ (gb_trans R0.out (gb_alloc _ _ none))) (fun hH2 => ?_)
  clear hK K hH1
  try simp only [Act.put, List.getElem_toArray, List.getElem_cons_succ, List.getElem_cons_zero, List.setIfInBounds_toArray, List.set_cons_zero, List.set_cons_succ]
  refine wpAnyH_done (by kernel_rfl) ?_ _
  clear hH2 KR R0
  have G1 := Lib.hid (gb_trans (gb_alloc w (.cells #[.string s0, .slice xa xn xc, .bool sl, .int .i64 h9, .int .i64 f9, .slice ca cn cc, .int .i64 df] 55) none) (gb_drew _ none))
  have B1 := Lib.hid ((IsB.new w 55 #[.string s0, .slice xa xn xc, .bool sl, .int .i64 h9, .int .i64 f9, .slice ca cn cc, .int .i64 df]).keep0 (gb_drew _ none))
  generalize (w.alloc (.cells #[.string s0, .slice xa xn xc, .bool sl, .int .i64 h9, .int .i64 f9, .slice ca cn cc, .int .i64 df] 55)).drew = w1 at *
  generalize w.heap.size = bx at *
  have HM1 := Lib.hid (HM.out.keep0 G1.out)
  clear HM f6 f14 ce z0 z1 z2 z3 z4 z5 z6 hw1 i1 i0 i2 i3
  have x0 := (B1.out.keep0 (gb_refl _ _)).cell 0
  have x1 := (B1.out.keep0 (gb_refl _ _)).cell 1
  have x2 := (B1.out.keep0 (gb_refl _ _)).cell 2
  have x3 := (B1.out.keep0 (gb_refl _ _)).cell 3
  have x4 := (B1.out.keep0 (gb_refl _ _)).cell 4
  have x5 := (B1.out.keep0 (gb_refl _ _)).cell 5
  have x6 := (B1.out.keep0 (gb_refl _ _)).cell 6
  dsimp at x0 x1 x2 x3 x4 x5 x6
  go_wp2
  clear x0 x1 x2 x3 x4 x5 x6
  go_loopw [28] (fun i9 wr => ∃ (j : Nat) (Vs' : List Value), j ≤ xn ∧ i9 = .int .i64 j ∧ (pExs H bs (ex.take j) L pos).1 = 0 ∧ MSt W b r s #[nm, .slice ha hn hc, .slice ma mn mc, v3, v4, v5, .slice (some sd) sn sc, v7, v8, .pointer (some ⟨r, 0, none⟩), .slice va vn vc, .slice fa fn fc, .slice ta tn tc, .slice pa pn pc, .slice (some ⟨eg, 0, none⟩) en ec, .bool o, .int .i64 c] V bs (pExs H bs (ex.take j) L pos).2.2 ⟨va, fa, ta, pa, vn, vc, fn, fc, tn, tc, pn, pc⟩ (pExs H bs (ex.take j) L pos).2.1 Vs' (.slice (some ⟨eg, 0, none⟩) en ec) st wr ∧ IsB wr bx 55 #[.string s0, .slice xa xn xc, .bool sl, .int .i64 h9, .int .i64 f9, .slice ca cn cc, .int .i64 df]) (fun i9 _ => xn - (intOf i9).toNat)
  case atStart => exact ⟨0, Vs, Nat.zero_le _, rfl, by rw [List.take_zero]; rfl, by rw [List.take_zero]; exact HM1.out, B1.out⟩
  case round =>
    obtain ⟨j, Vs2, hj, rfl, ht, hm2, hbx⟩ := hrel
    have HT := Lib.hid ht
    have HM2 := Lib.hid hm2
    have BX := Lib.hid hbx
    have KEEP := Lib.hid (pExs_keeps (H := H) (bs := bs) (ex.take j) (L := L) (pos := pos) HP.out H8.out)
    clear ht hm2 hbx HM1 B1 G1
    by_cases hlt : j < xn
    · obtain ⟨xd, hxd⟩ := HX.out.some (by omega)
      subst hxd
      have j1 : (j : Int) < xn := by omega
      have j0 : (0 : Int) ≤ (j : Int) := by omega
      have hw : IntKind.i64.wrap ((j : Int) + 1) = ((j + 1 : Nat) : Int) := by have := EL9.out; have := LX.out; rw [IntKind.wrap_i64]; omega
      have d0 := (HX.out.keep0 HM2.out.g).cells xd rfl j hlt
      obtain ⟨k, hk, hk2⟩ := HEX.out (ex.getD j 0) (by
        rw [List.getD_eq_getElem?_getD, List.getElem?_eq_getElem (by rw [LX.out]; exact hlt)]; exact List.getElem_mem _)
      have STEP := Lib.hid (pExs_app (ex.take j) (ex.getD j 0) L pos HT.out)
      have TK1 := take_one ex 0 j (by rw [LX.out]; exact hlt)
      rw [← TK1, hk, Int.toNat_natCast] at STEP
      rw [hk] at d0
      clear TK1 hk
      obtain ⟨res, hres⟩ : ∃ res, res = pEx H bs (pExs H bs (ex.take j) L pos).2.1 (pExs H bs (ex.take j) L pos).2.2 k := ⟨_, rfl⟩
      have KE := Lib.hid (mextract_any W wr _ _ _ _ _ _ _ _ _ _ _ _ _ _ _ _ _ _ _ _ _ _ _ _ _ _ _ _ _ _ b r s V bs _ _ Vs2 st o c HM2.out H HH.out HZ9.out HB.out HBL.out KEEP.out.1 KEEP.out.2.1 k hk2 (by rw [HV.out]; exact hk2) (by rw [HF.out]; exact hk2) res hres)
      have Z := Lib.hid (STEP.out.trans hres.symm)
      clear hres STEP KEEP hk2
      obtain ⟨er, L3, p3⟩ := res
      dsimp only at KE
      go_wp2_with fail
      refine KE.out.mono ?_
      rintro e9 w6 ⟨rfl, kp, Vs3, hm6⟩
      have KP := Lib.hid kp
      have HM6 := Lib.hid hm6
      clear kp hm6 d0 KE
      by_cases he : er = 0
      · have q0 : (er != 0) = false := by simp [he]
        have E0 := Lib.hid he
        clear he
        go_wp2
        go_roundw
        case rel => exact ⟨j + 1, Vs3, by omega, by go_num, by rw [Z.out]; exact E0.out, by rw [Z.out]; exact HM6.out, KP.out _ _ _ BX.out (by decide) (by decide) (by decide)⟩
        case measure => simp [intOf]; omega
      · have q0 : (er != 0) = true := by simp [he]
        have FULL := Lib.hid (pExs_stop (H := H) (bs := bs) (ex.take (j + 1)) (ex.drop (j + 1)) L pos (by rw [Z.out]; exact he))
        rw [List.take_append_drop, Z.out] at FULL
        have E0 := Lib.hid he
        have KS := Lib.hid (mstop_any w6 _ _ _ _ _ _ _ _ _ _ _ _ _ _ _ _ _ _ _ _ _ _ _ _ _ _ _ _ _ _ _ o c b HM6.out.m er)
        clear he
        go_wp2_with fail
        refine KS.out.mono ?_
        rintro e9 w7 ⟨rfl, m7, g7⟩
        have M7 := Lib.hid (HM6.out.put g7 m7)
        clear m7 g7 KS
        go_wp2
        refine bodyPost_ret (results_none rfl _ _ _) rfl ?_
        refine ⟨rfl, .inl ⟨by rw [FULL.out]; exact E0.out, Vs3, by rw [FULL.out]; exact M7.out⟩⟩
    · have hje : j = xn := by omega
      have j1 : ¬ (j : Int) < xn := by omega
      rw [List.take_of_length_le (by rw [LX.out]; omega)] at HT HM2
      clear KEEP
      obtain ⟨R, hR⟩ : ∃ R, R = pExs H bs ex L pos := ⟨_, rfl⟩
      rw [← hR] at HT HM2
      obtain ⟨er, L3, p3⟩ := R
      have FULL := Lib.hid hR
      clear hR
      dsimp only at HT HM2
      have E0 := Lib.hid (show er = 0 from HT.out)
      have KN := Lib.hid (mnext_any wr _ _ _ _ _ _ _ _ _ _ _ _ _ _ _ _ _ _ _ _ _ _ _ _ _ _ _ _ _ _ _ o c b HM2.out.m L3 HM2.out.pk.er.v HM2.out.pk.er.f HM2.out.pk.er.t s0 xa ca xn xc cn cc sl h9 f9 df cs (HC.out.keep0SCa HM2.out.g) (by have := LC.out; have := CL9.out; omega))
      unfold RetV at KN
      obtain ⟨x9, hx9⟩ : ∃ x9, x9 = pNext cs df (getE L3.V L3.F L3.T h9 f9) := ⟨_, rfl⟩
      rw [← hx9] at KN
      have XE := Lib.hid hx9
      clear hx9
      have x0 := (BX.out.keep0 (gb_refl _ _)).cell 0
      have x1 := (BX.out.keep0 (gb_refl _ _)).cell 1
      have x2 := (BX.out.keep0 (gb_refl _ _)).cell 2
      have x3 := (BX.out.keep0 (gb_refl _ _)).cell 3
      have x4 := (BX.out.keep0 (gb_refl _ _)).cell 4
      have x5 := (BX.out.keep0 (gb_refl _ _)).cell 5
      have x6 := (BX.out.keep0 (gb_refl _ _)).cell 6
      dsimp at x0 x1 x2 x3 x4 x5 x6
      go_wp2_with fail
      refine KN.out.mono ?_
      rintro e9 w6 ⟨rfl, g⟩
      have HM6 := Lib.hid (HM2.out.keep0 g)
      clear g KN
      have KF := Lib.hid (mfollow_any w6 _ _ _ _ _ _ _ _ _ _ _ _ _ _ _ _ _ _ _ _ _ _ _ _ _ _ _ _ _ _ _ o c b HM6.out.m W.heap.size st HM6.out.en STL.out.symm HM6.out.g.size SL9.out x9)
      go_wp2_with fail
      refine KF.out.mono ?_
      rintro e9 w7 ⟨rfl, fr⟩
      have FR := Lib.hid fr
      clear fr KF
      go_wp2
      go_end0
      refine ⟨rfl, ?_⟩
      rw [← FULL.out]
      dsimp only
      rw [← XE.out]
      cases FR.out with
      | stop _ e8 h m g =>
        rcases h with ⟨h, rfl⟩ | ⟨h, rfl⟩
        · exact .inr (.inl ⟨E0.out, h, Vs2, HM6.out.put g m⟩)
        · exact .inr (.inr (.inl ⟨E0.out, h, Vs2, HM6.out.put g m⟩))
      | go w8 _ V8 h2 h1 g1 m1 n1 g2 m2 n2 =>
        obtain ⟨e8, c8, hV8⟩ := own_shape n2
        subst hV8
        exact .inr (.inr (.inr ⟨E0.out, h2, h1, Vs2, e8, _, c8, (HM6.out.push g1 n1).put g2 m2⟩))
end Go.Proofs.Ytjhknmklejkknaa
