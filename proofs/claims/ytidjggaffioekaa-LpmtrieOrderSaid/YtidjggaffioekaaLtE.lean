/- Tries: longest, Lookup, Get, Len. -/
import Derived.Test.YtidjggaffioekaaLtD
namespace Go.Proofs.Ytidjggaffioekaa
open Go.RowKit
set_option linter.unusedVariables false

/-- The pointer to what was found, and its cells. -/
def FP (w : World) (v : Value) : Option Ent → Prop
  | none => v = .pointer none
  | some e => ∃ b, v = .pointer (some ⟨b, 0, none⟩) ∧ w.cell? ⟨b, 1, none⟩ = some (.int .i64 e.1.length) ∧ w.cell? ⟨b, 3, none⟩ = some (.int .i64 e.2)
theorem FP.keep0 {w w2 : World} {v : Value} {o : Option Ent} (h : FP w v o) (k : w.grownBy w2 none) : FP w2 v o := by
  cases o with
  | none => exact h
  | some e => obtain ⟨b, h1, h2, h3⟩ := h; exact ⟨b, h1, k.cell h2 (by simp), k.cell h3 (by simp)⟩
def RetF (o : Option Ent) (w : World) (e : Ending) (w' : World) : Prop := ∃ v, e = .returned v ∧ FP w' v o ∧ w.grownBy w' none
theorem lon_node {k : List Bool} {b : Nat} {q : List Bool} {st : Bool} {x : Int} {l r : Tr} {acc : Option Ent} {c : Bool} (h : q <+: k) (hc : k.getD q.length false = c) : lonT k (.node b q st x l r) acc = lonT k (if c then r else l) (if st then some (q, x) else acc) := by
  subst hc
  simp only [lonT, if_pos h]
  split <;> rfl
set_option maxRecDepth 100000 in
set_option maxHeartbeats 4000000 in
theorem longest_any (w : World) (s wd v : Nat) (T : Tr) (h0 : w.cell? ⟨s, 0, none⟩ = some (.int .i64 wd)) (hc : w.cell? ⟨s, 1, none⟩ = some (ptr T)) (tn : TN w wd T) (ok : Ok wd [] T) (h1 : 1 ≤ wd) (h2 : wd ≤ 32) (hv : v < 2 ^ wd) :
    Calls Try.prog 29 #[.pointer (some ⟨s, 0, none⟩), .int .u32 v] w (RetF (lonT (bitsN wd v) T none) w) := by
  have C0 := Lib.hid (fun (w' : World) (g : w.grownBy w' none) => (g.cell h0 (by simp) : w'.cell? ⟨s, 0, none⟩ = some (.int .i64 wd)))
  have OK := Lib.hid ok
  have TT := Lib.hid tn
  have H1 := Lib.hid h1
  have H2 := Lib.hid h2
  have HV := Lib.hid hv
  obtain ⟨o, ho⟩ : ∃ o, o = lonT (bitsN wd v) T none := ⟨_, rfl⟩
  rw [← ho]
  have HO := Lib.hid ho
  clear h0 tn ok h1 h2 hv ho
  go_enter Try.func29, Try.ntmps29
  go_wp2
  clear hc
  go_loopw [5, 6] (fun f x wr => ∃ F R acc q2, f = F ∧ x = ptr R ∧ FP wr F acc ∧ TN wr wd R ∧ Ok wd q2 R ∧ lonT (bitsN wd v) R acc = o ∧ w.grownBy wr none) (fun _ x wr => mL wd wr x)
  case atStart => exact ⟨_, T, none, [], rfl, rfl, rfl, TT.out, OK.out, HO.out.symm, gb_refl _ _⟩
  case round =>
    obtain ⟨F, R, acc, q2, rfl, rfl, fp, tn, ok, hl, hg⟩ := hrel
    have G := Lib.hid hg
    have FA := Lib.hid fp
    have HL := Lib.hid hl
    clear hg fp hl
    cases R with
    | nil =>
      have X := Lib.hid (show acc = o from HL.out)
      rw [show ptr Tr.nil = .pointer none from rfl]
      clear HL tn ok
      go_wp2
      go_ret
      exact ⟨_, rfl, by rw [← X.out]; exact FA.out, G.out⟩
    | node b q st x l r =>
      have TB := Lib.hid tn
      have NB := Lib.hid tn.1
      have OKR := Lib.hid ok
      have QL := Lib.hid ok.2.1
      have n0 := NB.out.cell 0
      have n1 := NB.out.cell 1
      dsimp at n0 n1
      clear tn ok
      rw [show ptr (.node b q st x l r) = .pointer (some ⟨b, 0, none⟩) from rfl]
      by_cases hq : q <+: bitsN wd v
      · have HS := Lib.hid (fun (W : World) (k : wr.grownBy W none) => has_any W s wd v q true (decide_eq_true hq) (C0.out W (gb_trans G.out k)) H1.out H2.out HV.out QL.out)
        cases hb : (bitsN wd v).getD q.length false
        · have BT := Lib.hid (fun (W : World) (k : wr.grownBy W none) => show Calls Try.prog 42 #[.pointer (some ⟨s, 0, none⟩), .int .u32 v, .int .i64 q.length] W (RetV (.int .u32 0) W) from bit_any W s wd v q.length false hb (C0.out W (gb_trans G.out k)) H1.out H2.out HV.out QL.out)
          have HN := Lib.hid (show lonT (bitsN wd v) l (if st then some (q, x) else acc) = lonT (bitsN wd v) (.node b q st x l r) acc from (lon_node hq hb).symm)
          have ML := Lib.hid (mL_ptr TB.out)
          have MK := Lib.hid (fun (W : World) (k : wr.grownBy W none) => mL_kid (TB.out.2.1.keep0 k) OKR.out.2.2.1 QL.out)
          have FQ := Lib.hid (show FP wr (.pointer (some ⟨b, 0, none⟩)) (some (q, x)) from ⟨b, rfl, NB.out.cell 1, NB.out.cell 3⟩)
          clear hq hb
          obtain ⟨ql, hql⟩ : ∃ ql, ql = q.length := ⟨_, rfl⟩
          rw [← hql] at n1 NB HS BT
          have HQL := Lib.hid hql
          clear hql
          generalize E wd q = eq at *
          go_wp2_with fail
          refine (HS.out _ (gb_refl _ _)).mono ?_
          rintro e wh ⟨rfl, gh⟩
          have GH := Lib.hid gh
          replace BT := Lib.hid (fun (W : World) (k : wh.grownBy W none) => BT.out W (gb_trans GH.out k))
          have NB3 := Lib.hid (NB.out.keep0 GH.out)
          have n2 := NB3.out.cell 2
          dsimp at n2
          clear gh n0 n1 HS
          cases st
          · simp only [Bool.false_eq_true, if_false] at HN
            go_upto_region 4 with fail
            have KT := Lib.hid (fun (w' : World) (q0 : wh.grownBy w' none) => (⟨(NB3.out.keep0 q0).cell 1, (NB3.out.keep0 q0).cell 4, q0⟩ : (fun w' : World => w'.cell? ⟨b, 1, none⟩ = some (.int .i64 ql) ∧ w'.cell? ⟨b, 4, none⟩ = some (ptr l) ∧ wh.grownBy w' none) w'))
            have J0 := Lib.hid (gb_drew wh none)
            refine wp_region_held_drew (S := (fun w' : World => w'.cell? ⟨b, 1, none⟩ = some (.int .i64 ql) ∧ w'.cell? ⟨b, 4, none⟩ = some (ptr l) ∧ wh.grownBy w' none)) (by kernel_rfl) (KT.out _ J0.out) (fun hH0 => ?_)
            refine wpAnyH_take (i := 0) (v := ?v1) rfl (by kernel_rfl) (by kernel_rfl) (by kernel_rfl) (fun _ _ _ h => h) (Or.inl ⟨by rfl, ?hy1⟩) (by assumption) ?rest1
            case hy1 => (intro wz hSw; (try dsimp only at hSw); first | (go_simp; done) | (go_simp; with_reducible rfl))
            try simp only [Act.put, List.getElem_toArray, List.getElem_cons_zero, List.setIfInBounds_toArray, List.set_cons_zero, List.set_cons_succ]
            refine wpAnyH_take (i := 1) (v := ?v2) rfl (by kernel_rfl) (by kernel_rfl) (by kernel_rfl) (fun _ _ _ h => h) (Or.inl ⟨by rfl, ?hy2⟩) (by assumption) ?rest2
            case hy2 => (intro wz hSw; (try dsimp only at hSw); first | (go_simp; done) | (go_simp; with_reducible rfl))
            try simp only [Act.put, List.getElem_toArray, List.getElem_cons_succ, List.getElem_cons_zero, List.setIfInBounds_toArray, List.set_cons_zero, List.set_cons_succ]
            refine wpAnyH_take (i := 2) (v := ?v3) rfl (by kernel_rfl) (by kernel_rfl) (by kernel_rfl) (fun _ _ _ h => h) (Or.inl ⟨by rfl, ?hy3⟩) (by assumption) ?rest3
            case hy3 => (intro wz hSw; (try dsimp only at hSw); first | (go_simp; done) | (go_simp; with_reducible rfl))
            try simp only [Act.put, List.getElem_toArray, List.getElem_cons_succ, List.getElem_cons_zero, List.setIfInBounds_toArray, List.set_cons_zero, List.set_cons_succ]
            refine wpAnyH_take (i := 3) (v := ?v4) rfl (by kernel_rfl) (by kernel_rfl) (by kernel_rfl) (fun _ _ _ h => h) (Or.inl ⟨by rfl, ?hy4⟩) (by assumption) ?rest4
            case hy4 => (intro wz hSw; (try dsimp only at hSw); first | (go_simp; done) | (go_simp; with_reducible rfl))
            try simp only [Act.put, List.getElem_toArray, List.getElem_cons_succ, List.getElem_cons_zero, List.setIfInBounds_toArray, List.set_cons_zero, List.set_cons_succ]
            refine wpAnyH_take (i := 4) (v := ?v5) rfl (by kernel_rfl) (by kernel_rfl) (by kernel_rfl) (fun _ _ _ h => h) (Or.inl ⟨by rfl, ?hy5⟩) (by assumption) ?rest5
            case hy5 => (intro wz hSw; (try dsimp only at hSw); first | (go_simp; done) | (go_simp; with_reducible rfl))
            try simp only [Act.put, List.getElem_toArray, List.getElem_cons_succ, List.getElem_cons_zero, List.setIfInBounds_toArray, List.set_cons_zero, List.set_cons_succ]
            refine wpAnyH_take (i := 5) (v := ?v6) rfl (by kernel_rfl) (by kernel_rfl) (by kernel_rfl) (fun _ _ _ h => h) (Or.inl ⟨by rfl, ?hy6⟩) (by assumption) ?rest6
            case hy6 => (intro wz hSw; (try dsimp only at hSw); first | (go_simp; done) | (go_simp; with_reducible rfl))
            try simp only [Act.put, List.getElem_toArray, List.getElem_cons_succ, List.getElem_cons_zero, List.setIfInBounds_toArray, List.set_cons_zero, List.set_cons_succ]
            refine wpAnyH_take (i := 6) (v := ?v7) rfl (by kernel_rfl) (by kernel_rfl) (by kernel_rfl) (fun _ _ _ h => h) (Or.inl ⟨by rfl, ?hy7⟩) (by assumption) ?rest7
            case hy7 => (intro wz hSw; (try dsimp only at hSw); first | (go_simp; done) | (go_simp; with_reducible rfl))
            try simp only [Act.put, List.getElem_toArray, List.getElem_cons_succ, List.getElem_cons_zero, List.setIfInBounds_toArray, List.set_cons_zero, List.set_cons_succ]
            refine wpAnyH_take (i := 7) (v := ?v8) rfl (by kernel_rfl) (by kernel_rfl) (by kernel_rfl) (fun _ _ _ h => h) (Or.inl ⟨by rfl, ?hy8⟩) (by assumption) ?rest8
            case hy8 => (intro wz hSw; (try dsimp only at hSw); first | (go_simp; done) | (go_simp; with_reducible rfl))
            try simp only [Act.put, List.getElem_toArray, List.getElem_cons_succ, List.getElem_cons_zero, List.setIfInBounds_toArray, List.set_cons_zero, List.set_cons_succ]
            refine wpAnyH_take (i := 9) (v := ?v9) rfl (by kernel_rfl) (by kernel_rfl) (by kernel_rfl) (fun _ _ _ h => h) (Or.inl ⟨by rfl, ?hy9⟩) (by assumption) ?rest9
            case hy9 => (intro wz hSw; (try dsimp only at hSw); first | (go_simp; done) | (go_simp; with_reducible rfl))
            try simp only [Act.put, List.getElem_toArray, List.getElem_cons_succ, List.getElem_cons_zero, List.setIfInBounds_toArray, List.set_cons_zero, List.set_cons_succ]
            refine wpAnyH_take (i := 10) (v := ?v10) rfl (by kernel_rfl) (by kernel_rfl) (by kernel_rfl) (fun _ _ _ h => h) (Or.inl ⟨by rfl, ?hy10⟩) (by assumption) ?rest10
            case hy10 => (intro wz hSw; (try dsimp only at hSw); first | (go_simp; done) | (go_simp; with_reducible rfl))
            try simp only [Act.put, List.getElem_toArray, List.getElem_cons_succ, List.getElem_cons_zero, List.setIfInBounds_toArray, List.set_cons_zero, List.set_cons_succ]
            refine wpAnyH_ready (rs := [8]) (by kernel_rfl) (by simp) ?_
            refine AllReadyH.cons (o := _) rfl (fun K hK => ?_) AllReadyH.nil
            go_simp
            (with_reducible refine (BT.out _ J0.out).mono ?_)
            rintro e jw1 ⟨rfl, g⟩
            have J1 := Lib.hid (gb_trans J0.out g)
            clear g
            try dsimp only
            refine hK.out _ _ (KT.out _ J1.out) (fun hH1 => ?_)
            clear hK K hH0
            try simp only [Act.put, List.getElem_toArray, List.getElem_cons_succ, List.getElem_cons_zero, List.setIfInBounds_toArray, List.set_cons_zero, List.set_cons_succ]
            refine wpAnyH_take (i := 11) (v := ?v11) rfl (by kernel_rfl) (by kernel_rfl) (by kernel_rfl) (fun _ _ _ h => h) (Or.inl ⟨by rfl, ?hy11⟩) (by assumption) ?rest11
            case hy11 => (intro wz hSw; (try dsimp only at hSw); first | (go_simp; done) | (go_simp; with_reducible rfl))
            try simp only [Act.put, List.getElem_toArray, List.getElem_cons_succ, List.getElem_cons_zero, List.setIfInBounds_toArray, List.set_cons_zero, List.set_cons_succ]
            refine wpAnyH_take (i := 12) (v := ?v12) rfl (by kernel_rfl) (by kernel_rfl) (by kernel_rfl) (fun _ _ _ h => h) (Or.inl ⟨by rfl, ?hy12⟩) (by assumption) ?rest12
            case hy12 => (intro wz hSw; (try dsimp only at hSw); first | (go_simp; done) | (go_simp; with_reducible rfl))
            try simp only [Act.put, List.getElem_toArray, List.getElem_cons_succ, List.getElem_cons_zero, List.setIfInBounds_toArray, List.set_cons_zero, List.set_cons_succ]
            refine wpAnyH_take (i := 13) (v := ?v13) rfl (by kernel_rfl) (by kernel_rfl) (by kernel_rfl) (fun _ _ _ h => h) (Or.inl ⟨by rfl, ?hy13⟩) (by assumption) ?rest13
            case hy13 => (intro wz hSw; (try dsimp only at hSw); first | (go_simp; done) | (go_simp; with_reducible rfl))
            try simp only [Act.put, List.getElem_toArray, List.getElem_cons_succ, List.getElem_cons_zero, List.setIfInBounds_toArray, List.set_cons_zero, List.set_cons_succ]
            refine wpAnyH_done (by kernel_rfl) ?_ _
            clear hH1
            have GR := Lib.hid (gb_trans GH.out J1.out)
            go_wp2
            go_roundw
            case rel => exact ⟨_, l, acc, q ++ [false], rfl, rfl, FA.out.keep0 GR.out, TB.out.2.1.keep0 GR.out, OKR.out.2.2.1, by rw [← HL.out]; exact HN.out, gb_trans G.out GR.out⟩
            case measure =>
              have m1 := MK.out _ GR.out
              have m2 := ML.out
              simp only [ptr] at m2
              have e1 := HQL.out
              simp
              omega
          · simp only [if_true] at HN
            go_upto_region 4 with fail
            have KT := Lib.hid (fun (w' : World) (q0 : wh.grownBy w' none) => (⟨(NB3.out.keep0 q0).cell 1, (NB3.out.keep0 q0).cell 4, q0⟩ : (fun w' : World => w'.cell? ⟨b, 1, none⟩ = some (.int .i64 ql) ∧ w'.cell? ⟨b, 4, none⟩ = some (ptr l) ∧ wh.grownBy w' none) w'))
            have J0 := Lib.hid (gb_drew wh none)
            refine wp_region_held_drew (S := (fun w' : World => w'.cell? ⟨b, 1, none⟩ = some (.int .i64 ql) ∧ w'.cell? ⟨b, 4, none⟩ = some (ptr l) ∧ wh.grownBy w' none)) (by kernel_rfl) (KT.out _ J0.out) (fun hH0 => ?_)
            refine wpAnyH_take (i := 0) (v := ?v14) rfl (by kernel_rfl) (by kernel_rfl) (by kernel_rfl) (fun _ _ _ h => h) (Or.inl ⟨by rfl, ?hy14⟩) (by assumption) ?rest14
            case hy14 => (intro wz hSw; (try dsimp only at hSw); first | (go_simp; done) | (go_simp; with_reducible rfl))
            try simp only [Act.put, List.getElem_toArray, List.getElem_cons_zero, List.setIfInBounds_toArray, List.set_cons_zero, List.set_cons_succ]
            refine wpAnyH_take (i := 1) (v := ?v15) rfl (by kernel_rfl) (by kernel_rfl) (by kernel_rfl) (fun _ _ _ h => h) (Or.inl ⟨by rfl, ?hy15⟩) (by assumption) ?rest15
            case hy15 => (intro wz hSw; (try dsimp only at hSw); first | (go_simp; done) | (go_simp; with_reducible rfl))
            try simp only [Act.put, List.getElem_toArray, List.getElem_cons_succ, List.getElem_cons_zero, List.setIfInBounds_toArray, List.set_cons_zero, List.set_cons_succ]
            refine wpAnyH_take (i := 2) (v := ?v16) rfl (by kernel_rfl) (by kernel_rfl) (by kernel_rfl) (fun _ _ _ h => h) (Or.inl ⟨by rfl, ?hy16⟩) (by assumption) ?rest16
            case hy16 => (intro wz hSw; (try dsimp only at hSw); first | (go_simp; done) | (go_simp; with_reducible rfl))
            try simp only [Act.put, List.getElem_toArray, List.getElem_cons_succ, List.getElem_cons_zero, List.setIfInBounds_toArray, List.set_cons_zero, List.set_cons_succ]
            refine wpAnyH_take (i := 3) (v := ?v17) rfl (by kernel_rfl) (by kernel_rfl) (by kernel_rfl) (fun _ _ _ h => h) (Or.inl ⟨by rfl, ?hy17⟩) (by assumption) ?rest17
            case hy17 => (intro wz hSw; (try dsimp only at hSw); first | (go_simp; done) | (go_simp; with_reducible rfl))
            try simp only [Act.put, List.getElem_toArray, List.getElem_cons_succ, List.getElem_cons_zero, List.setIfInBounds_toArray, List.set_cons_zero, List.set_cons_succ]
            refine wpAnyH_take (i := 4) (v := ?v18) rfl (by kernel_rfl) (by kernel_rfl) (by kernel_rfl) (fun _ _ _ h => h) (Or.inl ⟨by rfl, ?hy18⟩) (by assumption) ?rest18
            case hy18 => (intro wz hSw; (try dsimp only at hSw); first | (go_simp; done) | (go_simp; with_reducible rfl))
            try simp only [Act.put, List.getElem_toArray, List.getElem_cons_succ, List.getElem_cons_zero, List.setIfInBounds_toArray, List.set_cons_zero, List.set_cons_succ]
            refine wpAnyH_take (i := 5) (v := ?v19) rfl (by kernel_rfl) (by kernel_rfl) (by kernel_rfl) (fun _ _ _ h => h) (Or.inl ⟨by rfl, ?hy19⟩) (by assumption) ?rest19
            case hy19 => (intro wz hSw; (try dsimp only at hSw); first | (go_simp; done) | (go_simp; with_reducible rfl))
            try simp only [Act.put, List.getElem_toArray, List.getElem_cons_succ, List.getElem_cons_zero, List.setIfInBounds_toArray, List.set_cons_zero, List.set_cons_succ]
            refine wpAnyH_take (i := 6) (v := ?v20) rfl (by kernel_rfl) (by kernel_rfl) (by kernel_rfl) (fun _ _ _ h => h) (Or.inl ⟨by rfl, ?hy20⟩) (by assumption) ?rest20
            case hy20 => (intro wz hSw; (try dsimp only at hSw); first | (go_simp; done) | (go_simp; with_reducible rfl))
            try simp only [Act.put, List.getElem_toArray, List.getElem_cons_succ, List.getElem_cons_zero, List.setIfInBounds_toArray, List.set_cons_zero, List.set_cons_succ]
            refine wpAnyH_take (i := 7) (v := ?v21) rfl (by kernel_rfl) (by kernel_rfl) (by kernel_rfl) (fun _ _ _ h => h) (Or.inl ⟨by rfl, ?hy21⟩) (by assumption) ?rest21
            case hy21 => (intro wz hSw; (try dsimp only at hSw); first | (go_simp; done) | (go_simp; with_reducible rfl))
            try simp only [Act.put, List.getElem_toArray, List.getElem_cons_succ, List.getElem_cons_zero, List.setIfInBounds_toArray, List.set_cons_zero, List.set_cons_succ]
            refine wpAnyH_take (i := 9) (v := ?v22) rfl (by kernel_rfl) (by kernel_rfl) (by kernel_rfl) (fun _ _ _ h => h) (Or.inl ⟨by rfl, ?hy22⟩) (by assumption) ?rest22
            case hy22 => (intro wz hSw; (try dsimp only at hSw); first | (go_simp; done) | (go_simp; with_reducible rfl))
            try simp only [Act.put, List.getElem_toArray, List.getElem_cons_succ, List.getElem_cons_zero, List.setIfInBounds_toArray, List.set_cons_zero, List.set_cons_succ]
            refine wpAnyH_take (i := 10) (v := ?v23) rfl (by kernel_rfl) (by kernel_rfl) (by kernel_rfl) (fun _ _ _ h => h) (Or.inl ⟨by rfl, ?hy23⟩) (by assumption) ?rest23
            case hy23 => (intro wz hSw; (try dsimp only at hSw); first | (go_simp; done) | (go_simp; with_reducible rfl))
            try simp only [Act.put, List.getElem_toArray, List.getElem_cons_succ, List.getElem_cons_zero, List.setIfInBounds_toArray, List.set_cons_zero, List.set_cons_succ]
            refine wpAnyH_ready (rs := [8]) (by kernel_rfl) (by simp) ?_
            refine AllReadyH.cons (o := _) rfl (fun K hK => ?_) AllReadyH.nil
            go_simp
            (with_reducible refine (BT.out _ J0.out).mono ?_)
            rintro e jw1 ⟨rfl, g⟩
            have J1 := Lib.hid (gb_trans J0.out g)
            clear g
            try dsimp only
            refine hK.out _ _ (KT.out _ J1.out) (fun hH1 => ?_)
            clear hK K hH0
            try simp only [Act.put, List.getElem_toArray, List.getElem_cons_succ, List.getElem_cons_zero, List.setIfInBounds_toArray, List.set_cons_zero, List.set_cons_succ]
            refine wpAnyH_take (i := 11) (v := ?v24) rfl (by kernel_rfl) (by kernel_rfl) (by kernel_rfl) (fun _ _ _ h => h) (Or.inl ⟨by rfl, ?hy24⟩) (by assumption) ?rest24
            case hy24 => (intro wz hSw; (try dsimp only at hSw); first | (go_simp; done) | (go_simp; with_reducible rfl))
            try simp only [Act.put, List.getElem_toArray, List.getElem_cons_succ, List.getElem_cons_zero, List.setIfInBounds_toArray, List.set_cons_zero, List.set_cons_succ]
            refine wpAnyH_take (i := 12) (v := ?v25) rfl (by kernel_rfl) (by kernel_rfl) (by kernel_rfl) (fun _ _ _ h => h) (Or.inl ⟨by rfl, ?hy25⟩) (by assumption) ?rest25
            case hy25 => (intro wz hSw; (try dsimp only at hSw); first | (go_simp; done) | (go_simp; with_reducible rfl))
            try simp only [Act.put, List.getElem_toArray, List.getElem_cons_succ, List.getElem_cons_zero, List.setIfInBounds_toArray, List.set_cons_zero, List.set_cons_succ]
            refine wpAnyH_take (i := 13) (v := ?v26) rfl (by kernel_rfl) (by kernel_rfl) (by kernel_rfl) (fun _ _ _ h => h) (Or.inl ⟨by rfl, ?hy26⟩) (by assumption) ?rest26
            case hy26 => (intro wz hSw; (try dsimp only at hSw); first | (go_simp; done) | (go_simp; with_reducible rfl))
            try simp only [Act.put, List.getElem_toArray, List.getElem_cons_succ, List.getElem_cons_zero, List.setIfInBounds_toArray, List.set_cons_zero, List.set_cons_succ]
            refine wpAnyH_done (by kernel_rfl) ?_ _
            clear hH1
            have GR := Lib.hid (gb_trans GH.out J1.out)
            go_wp2
            go_roundw
            case rel => exact ⟨_, l, some (q, x), q ++ [false], rfl, rfl, FQ.out.keep0 GR.out, TB.out.2.1.keep0 GR.out, OKR.out.2.2.1, by rw [← HL.out]; exact HN.out, gb_trans G.out GR.out⟩
            case measure =>
              have m1 := MK.out _ GR.out
              have m2 := ML.out
              simp only [ptr] at m2
              have e1 := HQL.out
              simp
              omega
        · have BT := Lib.hid (fun (W : World) (k : wr.grownBy W none) => show Calls Try.prog 42 #[.pointer (some ⟨s, 0, none⟩), .int .u32 v, .int .i64 q.length] W (RetV (.int .u32 1) W) from bit_any W s wd v q.length true hb (C0.out W (gb_trans G.out k)) H1.out H2.out HV.out QL.out)
          have HN := Lib.hid (show lonT (bitsN wd v) r (if st then some (q, x) else acc) = lonT (bitsN wd v) (.node b q st x l r) acc from (lon_node hq hb).symm)
          have ML := Lib.hid (mL_ptr TB.out)
          have MK := Lib.hid (fun (W : World) (k : wr.grownBy W none) => mL_kid (TB.out.2.2.keep0 k) OKR.out.2.2.2 QL.out)
          have FQ := Lib.hid (show FP wr (.pointer (some ⟨b, 0, none⟩)) (some (q, x)) from ⟨b, rfl, NB.out.cell 1, NB.out.cell 3⟩)
          clear hq hb
          obtain ⟨ql, hql⟩ : ∃ ql, ql = q.length := ⟨_, rfl⟩
          rw [← hql] at n1 NB HS BT
          have HQL := Lib.hid hql
          clear hql
          generalize E wd q = eq at *
          go_wp2_with fail
          refine (HS.out _ (gb_refl _ _)).mono ?_
          rintro e wh ⟨rfl, gh⟩
          have GH := Lib.hid gh
          replace BT := Lib.hid (fun (W : World) (k : wh.grownBy W none) => BT.out W (gb_trans GH.out k))
          have NB3 := Lib.hid (NB.out.keep0 GH.out)
          have n2 := NB3.out.cell 2
          dsimp at n2
          clear gh n0 n1 HS
          cases st
          · simp only [Bool.false_eq_true, if_false] at HN
            go_upto_region 4 with fail
            have KT := Lib.hid (fun (w' : World) (q0 : wh.grownBy w' none) => (⟨(NB3.out.keep0 q0).cell 1, (NB3.out.keep0 q0).cell 5, q0⟩ : (fun w' : World => w'.cell? ⟨b, 1, none⟩ = some (.int .i64 ql) ∧ w'.cell? ⟨b, 5, none⟩ = some (ptr r) ∧ wh.grownBy w' none) w'))
            have J0 := Lib.hid (gb_drew wh none)
            refine wp_region_held_drew (S := (fun w' : World => w'.cell? ⟨b, 1, none⟩ = some (.int .i64 ql) ∧ w'.cell? ⟨b, 5, none⟩ = some (ptr r) ∧ wh.grownBy w' none)) (by kernel_rfl) (KT.out _ J0.out) (fun hH0 => ?_)
            refine wpAnyH_take (i := 0) (v := ?v27) rfl (by kernel_rfl) (by kernel_rfl) (by kernel_rfl) (fun _ _ _ h => h) (Or.inl ⟨by rfl, ?hy27⟩) (by assumption) ?rest27
            case hy27 => (intro wz hSw; (try dsimp only at hSw); first | (go_simp; done) | (go_simp; with_reducible rfl))
            try simp only [Act.put, List.getElem_toArray, List.getElem_cons_zero, List.setIfInBounds_toArray, List.set_cons_zero, List.set_cons_succ]
            refine wpAnyH_take (i := 1) (v := ?v28) rfl (by kernel_rfl) (by kernel_rfl) (by kernel_rfl) (fun _ _ _ h => h) (Or.inl ⟨by rfl, ?hy28⟩) (by assumption) ?rest28
            case hy28 => (intro wz hSw; (try dsimp only at hSw); first | (go_simp; done) | (go_simp; with_reducible rfl))
            try simp only [Act.put, List.getElem_toArray, List.getElem_cons_succ, List.getElem_cons_zero, List.setIfInBounds_toArray, List.set_cons_zero, List.set_cons_succ]
            refine wpAnyH_take (i := 2) (v := ?v29) rfl (by kernel_rfl) (by kernel_rfl) (by kernel_rfl) (fun _ _ _ h => h) (Or.inl ⟨by rfl, ?hy29⟩) (by assumption) ?rest29
            case hy29 => (intro wz hSw; (try dsimp only at hSw); first | (go_simp; done) | (go_simp; with_reducible rfl))
            try simp only [Act.put, List.getElem_toArray, List.getElem_cons_succ, List.getElem_cons_zero, List.setIfInBounds_toArray, List.set_cons_zero, List.set_cons_succ]
            refine wpAnyH_take (i := 3) (v := ?v30) rfl (by kernel_rfl) (by kernel_rfl) (by kernel_rfl) (fun _ _ _ h => h) (Or.inl ⟨by rfl, ?hy30⟩) (by assumption) ?rest30
            case hy30 => (intro wz hSw; (try dsimp only at hSw); first | (go_simp; done) | (go_simp; with_reducible rfl))
            try simp only [Act.put, List.getElem_toArray, List.getElem_cons_succ, List.getElem_cons_zero, List.setIfInBounds_toArray, List.set_cons_zero, List.set_cons_succ]
            refine wpAnyH_take (i := 4) (v := ?v31) rfl (by kernel_rfl) (by kernel_rfl) (by kernel_rfl) (fun _ _ _ h => h) (Or.inl ⟨by rfl, ?hy31⟩) (by assumption) ?rest31
            case hy31 => (intro wz hSw; (try dsimp only at hSw); first | (go_simp; done) | (go_simp; with_reducible rfl))
            try simp only [Act.put, List.getElem_toArray, List.getElem_cons_succ, List.getElem_cons_zero, List.setIfInBounds_toArray, List.set_cons_zero, List.set_cons_succ]
            refine wpAnyH_take (i := 5) (v := ?v32) rfl (by kernel_rfl) (by kernel_rfl) (by kernel_rfl) (fun _ _ _ h => h) (Or.inl ⟨by rfl, ?hy32⟩) (by assumption) ?rest32
            case hy32 => (intro wz hSw; (try dsimp only at hSw); first | (go_simp; done) | (go_simp; with_reducible rfl))
            try simp only [Act.put, List.getElem_toArray, List.getElem_cons_succ, List.getElem_cons_zero, List.setIfInBounds_toArray, List.set_cons_zero, List.set_cons_succ]
            refine wpAnyH_take (i := 6) (v := ?v33) rfl (by kernel_rfl) (by kernel_rfl) (by kernel_rfl) (fun _ _ _ h => h) (Or.inl ⟨by rfl, ?hy33⟩) (by assumption) ?rest33
            case hy33 => (intro wz hSw; (try dsimp only at hSw); first | (go_simp; done) | (go_simp; with_reducible rfl))
            try simp only [Act.put, List.getElem_toArray, List.getElem_cons_succ, List.getElem_cons_zero, List.setIfInBounds_toArray, List.set_cons_zero, List.set_cons_succ]
            refine wpAnyH_take (i := 7) (v := ?v34) rfl (by kernel_rfl) (by kernel_rfl) (by kernel_rfl) (fun _ _ _ h => h) (Or.inl ⟨by rfl, ?hy34⟩) (by assumption) ?rest34
            case hy34 => (intro wz hSw; (try dsimp only at hSw); first | (go_simp; done) | (go_simp; with_reducible rfl))
            try simp only [Act.put, List.getElem_toArray, List.getElem_cons_succ, List.getElem_cons_zero, List.setIfInBounds_toArray, List.set_cons_zero, List.set_cons_succ]
            refine wpAnyH_take (i := 9) (v := ?v35) rfl (by kernel_rfl) (by kernel_rfl) (by kernel_rfl) (fun _ _ _ h => h) (Or.inl ⟨by rfl, ?hy35⟩) (by assumption) ?rest35
            case hy35 => (intro wz hSw; (try dsimp only at hSw); first | (go_simp; done) | (go_simp; with_reducible rfl))
            try simp only [Act.put, List.getElem_toArray, List.getElem_cons_succ, List.getElem_cons_zero, List.setIfInBounds_toArray, List.set_cons_zero, List.set_cons_succ]
            refine wpAnyH_take (i := 10) (v := ?v36) rfl (by kernel_rfl) (by kernel_rfl) (by kernel_rfl) (fun _ _ _ h => h) (Or.inl ⟨by rfl, ?hy36⟩) (by assumption) ?rest36
            case hy36 => (intro wz hSw; (try dsimp only at hSw); first | (go_simp; done) | (go_simp; with_reducible rfl))
            try simp only [Act.put, List.getElem_toArray, List.getElem_cons_succ, List.getElem_cons_zero, List.setIfInBounds_toArray, List.set_cons_zero, List.set_cons_succ]
            refine wpAnyH_ready (rs := [8]) (by kernel_rfl) (by simp) ?_
            refine AllReadyH.cons (o := _) rfl (fun K hK => ?_) AllReadyH.nil
            go_simp
            (with_reducible refine (BT.out _ J0.out).mono ?_)
            rintro e jw1 ⟨rfl, g⟩
            have J1 := Lib.hid (gb_trans J0.out g)
            clear g
            try dsimp only
            refine hK.out _ _ (KT.out _ J1.out) (fun hH1 => ?_)
            clear hK K hH0
            try simp only [Act.put, List.getElem_toArray, List.getElem_cons_succ, List.getElem_cons_zero, List.setIfInBounds_toArray, List.set_cons_zero, List.set_cons_succ]
            refine wpAnyH_take (i := 11) (v := ?v37) rfl (by kernel_rfl) (by kernel_rfl) (by kernel_rfl) (fun _ _ _ h => h) (Or.inl ⟨by rfl, ?hy37⟩) (by assumption) ?rest37
            case hy37 => (intro wz hSw; (try dsimp only at hSw); first | (go_simp; done) | (go_simp; with_reducible rfl))
            try simp only [Act.put, List.getElem_toArray, List.getElem_cons_succ, List.getElem_cons_zero, List.setIfInBounds_toArray, List.set_cons_zero, List.set_cons_succ]
            refine wpAnyH_take (i := 12) (v := ?v38) rfl (by kernel_rfl) (by kernel_rfl) (by kernel_rfl) (fun _ _ _ h => h) (Or.inl ⟨by rfl, ?hy38⟩) (by assumption) ?rest38
            case hy38 => (intro wz hSw; (try dsimp only at hSw); first | (go_simp; done) | (go_simp; with_reducible rfl))
            try simp only [Act.put, List.getElem_toArray, List.getElem_cons_succ, List.getElem_cons_zero, List.setIfInBounds_toArray, List.set_cons_zero, List.set_cons_succ]
            refine wpAnyH_take (i := 13) (v := ?v39) rfl (by kernel_rfl) (by kernel_rfl) (by kernel_rfl) (fun _ _ _ h => h) (Or.inl ⟨by rfl, ?hy39⟩) (by assumption) ?rest39
            case hy39 => (intro wz hSw; (try dsimp only at hSw); first | (go_simp; done) | (go_simp; with_reducible rfl))
            try simp only [Act.put, List.getElem_toArray, List.getElem_cons_succ, List.getElem_cons_zero, List.setIfInBounds_toArray, List.set_cons_zero, List.set_cons_succ]
            refine wpAnyH_done (by kernel_rfl) ?_ _
            clear hH1
            have GR := Lib.hid (gb_trans GH.out J1.out)
            go_wp2
            go_roundw
            case rel => exact ⟨_, r, acc, q ++ [true], rfl, rfl, FA.out.keep0 GR.out, TB.out.2.2.keep0 GR.out, OKR.out.2.2.2, by rw [← HL.out]; exact HN.out, gb_trans G.out GR.out⟩
            case measure =>
              have m1 := MK.out _ GR.out
              have m2 := ML.out
              simp only [ptr] at m2
              have e1 := HQL.out
              simp
              omega
          · simp only [if_true] at HN
            go_upto_region 4 with fail
            have KT := Lib.hid (fun (w' : World) (q0 : wh.grownBy w' none) => (⟨(NB3.out.keep0 q0).cell 1, (NB3.out.keep0 q0).cell 5, q0⟩ : (fun w' : World => w'.cell? ⟨b, 1, none⟩ = some (.int .i64 ql) ∧ w'.cell? ⟨b, 5, none⟩ = some (ptr r) ∧ wh.grownBy w' none) w'))
            have J0 := Lib.hid (gb_drew wh none)
            refine wp_region_held_drew (S := (fun w' : World => w'.cell? ⟨b, 1, none⟩ = some (.int .i64 ql) ∧ w'.cell? ⟨b, 5, none⟩ = some (ptr r) ∧ wh.grownBy w' none)) (by kernel_rfl) (KT.out _ J0.out) (fun hH0 => ?_)
            refine wpAnyH_take (i := 0) (v := ?v40) rfl (by kernel_rfl) (by kernel_rfl) (by kernel_rfl) (fun _ _ _ h => h) (Or.inl ⟨by rfl, ?hy40⟩) (by assumption) ?rest40
            case hy40 => (intro wz hSw; (try dsimp only at hSw); first | (go_simp; done) | (go_simp; with_reducible rfl))
            try simp only [Act.put, List.getElem_toArray, List.getElem_cons_zero, List.setIfInBounds_toArray, List.set_cons_zero, List.set_cons_succ]
            refine wpAnyH_take (i := 1) (v := ?v41) rfl (by kernel_rfl) (by kernel_rfl) (by kernel_rfl) (fun _ _ _ h => h) (Or.inl ⟨by rfl, ?hy41⟩) (by assumption) ?rest41
            case hy41 => (intro wz hSw; (try dsimp only at hSw); first | (go_simp; done) | (go_simp; with_reducible rfl))
            try simp only [Act.put, List.getElem_toArray, List.getElem_cons_succ, List.getElem_cons_zero, List.setIfInBounds_toArray, List.set_cons_zero, List.set_cons_succ]
            refine wpAnyH_take (i := 2) (v := ?v42) rfl (by kernel_rfl) (by kernel_rfl) (by kernel_rfl) (fun _ _ _ h => h) (Or.inl ⟨by rfl, ?hy42⟩) (by assumption) ?rest42
            case hy42 => (intro wz hSw; (try dsimp only at hSw); first | (go_simp; done) | (go_simp; with_reducible rfl))
            try simp only [Act.put, List.getElem_toArray, List.getElem_cons_succ, List.getElem_cons_zero, List.setIfInBounds_toArray, List.set_cons_zero, List.set_cons_succ]
            refine wpAnyH_take (i := 3) (v := ?v43) rfl (by kernel_rfl) (by kernel_rfl) (by kernel_rfl) (fun _ _ _ h => h) (Or.inl ⟨by rfl, ?hy43⟩) (by assumption) ?rest43
            case hy43 => (intro wz hSw; (try dsimp only at hSw); first | (go_simp; done) | (go_simp; with_reducible rfl))
            try simp only [Act.put, List.getElem_toArray, List.getElem_cons_succ, List.getElem_cons_zero, List.setIfInBounds_toArray, List.set_cons_zero, List.set_cons_succ]
            refine wpAnyH_take (i := 4) (v := ?v44) rfl (by kernel_rfl) (by kernel_rfl) (by kernel_rfl) (fun _ _ _ h => h) (Or.inl ⟨by rfl, ?hy44⟩) (by assumption) ?rest44
            case hy44 => (intro wz hSw; (try dsimp only at hSw); first | (go_simp; done) | (go_simp; with_reducible rfl))
            try simp only [Act.put, List.getElem_toArray, List.getElem_cons_succ, List.getElem_cons_zero, List.setIfInBounds_toArray, List.set_cons_zero, List.set_cons_succ]
            refine wpAnyH_take (i := 5) (v := ?v45) rfl (by kernel_rfl) (by kernel_rfl) (by kernel_rfl) (fun _ _ _ h => h) (Or.inl ⟨by rfl, ?hy45⟩) (by assumption) ?rest45
            case hy45 => (intro wz hSw; (try dsimp only at hSw); first | (go_simp; done) | (go_simp; with_reducible rfl))
            try simp only [Act.put, List.getElem_toArray, List.getElem_cons_succ, List.getElem_cons_zero, List.setIfInBounds_toArray, List.set_cons_zero, List.set_cons_succ]
            refine wpAnyH_take (i := 6) (v := ?v46) rfl (by kernel_rfl) (by kernel_rfl) (by kernel_rfl) (fun _ _ _ h => h) (Or.inl ⟨by rfl, ?hy46⟩) (by assumption) ?rest46
            case hy46 => (intro wz hSw; (try dsimp only at hSw); first | (go_simp; done) | (go_simp; with_reducible rfl))
            try simp only [Act.put, List.getElem_toArray, List.getElem_cons_succ, List.getElem_cons_zero, List.setIfInBounds_toArray, List.set_cons_zero, List.set_cons_succ]
            refine wpAnyH_take (i := 7) (v := ?v47) rfl (by kernel_rfl) (by kernel_rfl) (by kernel_rfl) (fun _ _ _ h => h) (Or.inl ⟨by rfl, ?hy47⟩) (by assumption) ?rest47
            case hy47 => (intro wz hSw; (try dsimp only at hSw); first | (go_simp; done) | (go_simp; with_reducible rfl))
            try simp only [Act.put, List.getElem_toArray, List.getElem_cons_succ, List.getElem_cons_zero, List.setIfInBounds_toArray, List.set_cons_zero, List.set_cons_succ]
            refine wpAnyH_take (i := 9) (v := ?v48) rfl (by kernel_rfl) (by kernel_rfl) (by kernel_rfl) (fun _ _ _ h => h) (Or.inl ⟨by rfl, ?hy48⟩) (by assumption) ?rest48
            case hy48 => (intro wz hSw; (try dsimp only at hSw); first | (go_simp; done) | (go_simp; with_reducible rfl))
            try simp only [Act.put, List.getElem_toArray, List.getElem_cons_succ, List.getElem_cons_zero, List.setIfInBounds_toArray, List.set_cons_zero, List.set_cons_succ]
            refine wpAnyH_take (i := 10) (v := ?v49) rfl (by kernel_rfl) (by kernel_rfl) (by kernel_rfl) (fun _ _ _ h => h) (Or.inl ⟨by rfl, ?hy49⟩) (by assumption) ?rest49
            case hy49 => (intro wz hSw; (try dsimp only at hSw); first | (go_simp; done) | (go_simp; with_reducible rfl))
            try simp only [Act.put, List.getElem_toArray, List.getElem_cons_succ, List.getElem_cons_zero, List.setIfInBounds_toArray, List.set_cons_zero, List.set_cons_succ]
            refine wpAnyH_ready (rs := [8]) (by kernel_rfl) (by simp) ?_
            refine AllReadyH.cons (o := _) rfl (fun K hK => ?_) AllReadyH.nil
            go_simp
            (with_reducible refine (BT.out _ J0.out).mono ?_)
            rintro e jw1 ⟨rfl, g⟩
            have J1 := Lib.hid (gb_trans J0.out g)
            clear g
            try dsimp only
            refine hK.out _ _ (KT.out _ J1.out) (fun hH1 => ?_)
            clear hK K hH0
            try simp only [Act.put, List.getElem_toArray, List.getElem_cons_succ, List.getElem_cons_zero, List.setIfInBounds_toArray, List.set_cons_zero, List.set_cons_succ]
            refine wpAnyH_take (i := 11) (v := ?v50) rfl (by kernel_rfl) (by kernel_rfl) (by kernel_rfl) (fun _ _ _ h => h) (Or.inl ⟨by rfl, ?hy50⟩) (by assumption) ?rest50
            case hy50 => (intro wz hSw; (try dsimp only at hSw); first | (go_simp; done) | (go_simp; with_reducible rfl))
            try simp only [Act.put, List.getElem_toArray, List.getElem_cons_succ, List.getElem_cons_zero, List.setIfInBounds_toArray, List.set_cons_zero, List.set_cons_succ]
            refine wpAnyH_take (i := 12) (v := ?v51) rfl (by kernel_rfl) (by kernel_rfl) (by kernel_rfl) (fun _ _ _ h => h) (Or.inl ⟨by rfl, ?hy51⟩) (by assumption) ?rest51
            case hy51 => (intro wz hSw; (try dsimp only at hSw); first | (go_simp; done) | (go_simp; with_reducible rfl))
            try simp only [Act.put, List.getElem_toArray, List.getElem_cons_succ, List.getElem_cons_zero, List.setIfInBounds_toArray, List.set_cons_zero, List.set_cons_succ]
            refine wpAnyH_take (i := 13) (v := ?v52) rfl (by kernel_rfl) (by kernel_rfl) (by kernel_rfl) (fun _ _ _ h => h) (Or.inl ⟨by rfl, ?hy52⟩) (by assumption) ?rest52
            case hy52 => (intro wz hSw; (try dsimp only at hSw); first | (go_simp; done) | (go_simp; with_reducible rfl))
            try simp only [Act.put, List.getElem_toArray, List.getElem_cons_succ, List.getElem_cons_zero, List.setIfInBounds_toArray, List.set_cons_zero, List.set_cons_succ]
            refine wpAnyH_done (by kernel_rfl) ?_ _
            clear hH1
            have GR := Lib.hid (gb_trans GH.out J1.out)
            go_wp2
            go_roundw
            case rel => exact ⟨_, r, some (q, x), q ++ [true], rfl, rfl, FQ.out.keep0 GR.out, TB.out.2.2.keep0 GR.out, OKR.out.2.2.2, by rw [← HL.out]; exact HN.out, gb_trans G.out GR.out⟩
            case measure =>
              have m1 := MK.out _ GR.out
              have m2 := ML.out
              simp only [ptr] at m2
              have e1 := HQL.out
              simp
              omega
      · have HS := Lib.hid (fun (W : World) (k : wr.grownBy W none) => has_any W s wd v q false (decide_eq_false hq) (C0.out W (gb_trans G.out k)) H1.out H2.out HV.out QL.out)
        have X := Lib.hid (show acc = o by rw [← HL.out]; simp only [lonT]; rw [if_neg hq])
        clear hq HL
        generalize E wd q = eq at *
        generalize q.length = ql at *
        go_wp2_with fail
        refine (HS.out _ (gb_refl _ _)).mono ?_
        rintro e wh ⟨rfl, gh⟩
        have GH := Lib.hid (gb_trans G.out gh)
        have FA2 := Lib.hid (FA.out.keep0 gh)
        clear gh
        go_wp2
        go_ret
        exact ⟨_, rfl, by rw [← X.out]; exact FA2.out, GH.out⟩
def triV : Option Ent → Value
  | none => .tuple #[.int .i64 0, .int .i64 0, .bool false]
  | some e => .tuple #[.int .i64 e.2, .int .i64 e.1.length, .bool true]
set_option maxRecDepth 100000 in
set_option maxHeartbeats 4000000 in
theorem look_no (w : World) (v : Value) (k : Value) (h : Calls Try.prog 28 #[v] w (RetS (.bool false) w)) : Calls Try.prog 15 #[v, k] w (RetV (triV none) w) := by
  have MD := Lib.hid h
  clear h
  go_enter Try.func15, Try.ntmps15
  go_wp2_with fail
  refine MD.out.mono ?_
  rintro e w1 ⟨rfl, rfl⟩
  go_wp2
  (try simp only [Exit.inBlock, Exit.then])
  refine bodyPost_ret (v := .tuple #[.int .i64 0, .int .i64 0, .bool false]) (by rw [results3 rfl]; rfl) rfl ⟨rfl, gb_refl _ _⟩
set_option maxRecDepth 100000 in
set_option maxHeartbeats 4000000 in
theorem look_bad (W w : World) (q s wd v : Nat) (T : Tr) (h : LS W q s wd T w) (hv : ¬ v < 2 ^ wd) : Calls Try.prog 15 #[.pointer (some ⟨q, 0, none⟩), .int .u32 v] w (RetV (triV none) w) := by
  have MD := Lib.hid (made_yes w q s h.qv)
  have c0 : w.cell? ⟨q, 0, none⟩ = some (.pointer (some ⟨s, 0, none⟩)) := h.qv.cell 0
  have c1 : w.cell? ⟨s, 0, none⟩ = some (.int .i64 wd) := h.sv.cell 0
  have FT := Lib.hid (fun W => (fits_any v wd W).mono fun _ _ k => (⟨k.1, gb_gr k.2 none⟩ : RetV _ W _ _))
  rw [fits_no hv] at FT
  clear h hv
  go_enter Try.func15, Try.ntmps15
  go_wp2_with fail
  refine MD.out.mono ?_
  rintro e w1 ⟨rfl, rfl⟩
  go_wp2_with fail
  refine (FT.out _).mono ?_
  rintro e w2 ⟨rfl, g⟩
  have G := Lib.hid g
  clear g
  go_wp2
  (try simp only [Exit.inBlock, Exit.then])
  refine bodyPost_ret (v := .tuple #[.int .i64 0, .int .i64 0, .bool false]) (by rw [results3 rfl]; rfl) rfl ⟨rfl, G.out⟩
set_option maxRecDepth 100000 in
set_option maxHeartbeats 4000000 in
theorem look_any (W w : World) (q s wd v : Nat) (T : Tr) (h : LS W q s wd T w) (hv : v < 2 ^ wd) : Calls Try.prog 15 #[.pointer (some ⟨q, 0, none⟩), .int .u32 v] w (RetV (triV (lonT (bitsN wd v) T none)) w) := by
  have MD := Lib.hid (made_yes w q s h.qv)
  have c0 : w.cell? ⟨q, 0, none⟩ = some (.pointer (some ⟨s, 0, none⟩)) := h.qv.cell 0
  have c1 : w.cell? ⟨s, 0, none⟩ = some (.int .i64 wd) := h.sv.cell 0
  have FT := Lib.hid (fun W => (fits_any v wd W).mono fun _ _ k => (⟨k.1, gb_gr k.2 none⟩ : RetV _ W _ _))
  rw [fits_yes h.w1 h.w2 hv] at FT
  have LO := Lib.hid (fun (W2 : World) (k : w.grownBy W2 none) => longest_any W2 s wd v T ((h.keep0 k).sv.cell 0) ((h.keep0 k).sv.cell 1) (h.keep0 k).tn h.ok h.w1 h.w2 hv)
  have CQ := Lib.hid (fun (W2 : World) (k : w.grownBy W2 none) => ((h.keep0 k).qv.cell 0 : W2.cell? ⟨q, 0, none⟩ = some (.pointer (some ⟨s, 0, none⟩))))
  generalize lonT (bitsN wd v) T none = o at *
  clear h hv
  go_enter Try.func15, Try.ntmps15
  go_wp2_with fail
  refine MD.out.mono ?_
  rintro e w1 ⟨rfl, rfl⟩
  go_wp2_with fail
  refine (FT.out _).mono ?_
  rintro e w2 ⟨rfl, g⟩
  have G := Lib.hid g
  clear g c0 c1
  have c0 := CQ.out _ G.out
  go_wp2_with fail
  refine (LO.out _ G.out).mono ?_
  rintro e w3 ⟨v, rfl, fp, g⟩
  have G3 := Lib.hid (gb_trans G.out g)
  clear g c0
  cases o with
  | none =>
    obtain rfl : v = .pointer none := fp
    go_wp2
    (try simp only [Exit.inBlock, Exit.then])
    refine bodyPost_ret (v := .tuple #[.int .i64 0, .int .i64 0, .bool false]) (by rw [results3 rfl]; rfl) rfl ⟨rfl, G3.out⟩
  | some e =>
    obtain ⟨b, rfl, d1, d3⟩ := fp
    obtain ⟨el, ex⟩ := e
    dsimp at d1 d3
    generalize hel : el.length = n at *
    go_wp2
    go_quiet (fail)
    go_wp2
    (try simp only [Exit.inBlock, Exit.then])
    refine bodyPost_ret (v := .tuple #[.int .i64 ex, .int .i64 n, .bool true]) (by rw [results3 rfl]; rfl) rfl ⟨by rw [← hel]; rfl, gb_trans G3.out (gb_drewN _ _ _)⟩
set_option maxRecDepth 100000 in
set_option maxHeartbeats 4000000 in
theorem get_no (w : World) (v a b : Value) (h : Calls Try.prog 28 #[v] w (RetS (.bool false) w)) : Calls Try.prog 24 #[v, a, b] w (RetV (.tuple #[.int .i64 0, .bool false]) w) := by
  have MD := Lib.hid h
  clear h
  go_enter Try.func24, Try.ntmps24
  go_wp2_with fail
  refine MD.out.mono ?_
  rintro e w1 ⟨rfl, rfl⟩
  go_wp2
  go_ret2
  exact ⟨rfl, gb_refl _ _⟩
set_option maxRecDepth 100000 in
set_option maxHeartbeats 4000000 in
theorem get_bad (W w : World) (q s wd v : Nat) (T : Tr) (n : Int) (h : LS W q s wd T w) (hn : ¬ (v < 2 ^ wd ∧ 0 ≤ n ∧ n ≤ wd)) : Calls Try.prog 24 #[.pointer (some ⟨q, 0, none⟩), .int .u32 v, .int .i64 n] w (RetV (.tuple #[.int .i64 0, .bool false]) w) := by
  have MD := Lib.hid (made_yes w q s h.qv)
  have c0 : w.cell? ⟨q, 0, none⟩ = some (.pointer (some ⟨s, 0, none⟩)) := h.qv.cell 0
  have GB := Lib.hid (sget_bad W w q s wd v T n h hn)
  clear h hn
  go_enter Try.func24, Try.ntmps24
  go_wp2_with fail
  refine MD.out.mono ?_
  rintro e w1 ⟨rfl, rfl⟩
  go_wp2_with fail
  refine GB.out.mono ?_
  rintro e w2 ⟨rfl, g⟩
  have G := Lib.hid g
  clear g
  go_wp2
  go_ret2
  exact ⟨rfl, G.out⟩
def getV : Option Int → Value
  | none => .tuple #[.int .i64 0, .bool false]
  | some x => .tuple #[.int .i64 x, .bool true]
def getN (p : List Bool) : Tr → Option Int
  | .nil => none
  | .node _ q st x _ _ => if q = p ∧ st = true then some x else none
theorem getT_N (p : List Bool) (T : Tr) : getT p T = getN p (sub T (desc p T)) := by unfold getT getN; cases sub T (desc p T) <;> rfl
set_option maxRecDepth 100000 in
set_option maxHeartbeats 4000000 in
theorem get_ok (W w : World) (q s wd v n : Nat) (T : Tr) (p : List Bool) (h : LS W q s wd T w) (hv : v < 2 ^ wd) (hn : n ≤ wd) (hp : p = (bitsN wd v).take n) : Calls Try.prog 24 #[.pointer (some ⟨q, 0, none⟩), .int .u32 v, .int .i64 n] w (RetV (getV (getT p T)) w) := by
  have MD := Lib.hid (made_yes w q s h.qv)
  have c0 : w.cell? ⟨q, 0, none⟩ = some (.pointer (some ⟨s, 0, none⟩)) := h.qv.cell 0
  have GB := Lib.hid (sget_ok W w q s wd v n T p h hv hn hp)
  have TS := Lib.hid (sub_tn T (desc p T) h.tn)
  rw [getT_N]
  generalize sub T (desc p T) = S at *
  clear h hn hv hp
  obtain ⟨o, ho⟩ : ∃ o, o = getN p S := ⟨_, rfl⟩
  rw [← ho]
  have FV : (o = none ∧ fgt p S = .pointer none) ∨ ∃ x b, o = some x ∧ fgt p S = .pointer (some ⟨b, 0, none⟩) ∧ ∀ W2, w.grownBy W2 none → W2.cell? ⟨b, 3, none⟩ = some (.int .i64 x) := by
    cases S with
    | nil => exact .inl ⟨ho, rfl⟩
    | node b q st x l r =>
      simp only [fgt]
      simp only [getN] at ho
      by_cases e : q = p ∧ st = true
      · rw [if_pos e] at ho
        exact .inr ⟨x, b, ho, by rw [if_pos e], fun W2 k => (TS.out.1.keep0 k).cell 3⟩
      · rw [if_neg e] at ho
        exact .inl ⟨ho, by rw [if_neg e]⟩
  clear ho TS
  generalize fgt p S = fv at *
  go_enter Try.func24, Try.ntmps24
  go_wp2_with fail
  refine MD.out.mono ?_
  rintro e w1 ⟨rfl, rfl⟩
  go_wp2_with fail
  refine GB.out.mono ?_
  rintro e w2 ⟨rfl, g⟩
  have G := Lib.hid g
  clear c0
  rcases FV with ⟨rfl, rfl⟩ | ⟨x, b, rfl, rfl, hx⟩
  · clear g
    go_wp2
    go_ret2
    exact ⟨rfl, G.out⟩
  · have cx := hx _ g
    clear g hx
    go_wp2
    go_ret2
    exact ⟨rfl, G.out⟩
set_option maxRecDepth 100000 in
theorem len_any (W w : World) (q s wd : Nat) (T : Tr) (h : LS W q s wd T w) : Calls Try.prog 21 #[.pointer (some ⟨q, 0, none⟩)] w (RetS (.int .i64 (ents T).length) w) := by
  have MD := Lib.hid (made_yes w q s h.qv)
  have c0 : w.cell? ⟨q, 0, none⟩ = some (.pointer (some ⟨s, 0, none⟩)) := h.qv.cell 0
  have c2 : w.cell? ⟨s, 2, none⟩ = some (.int .i64 (ents T).length) := h.sv.cell 2
  generalize (ents T).length = n at *
  clear h
  go_enter Try.func21, Try.ntmps21
  go_wp2_with fail
  refine MD.out.mono ?_
  rintro e w1 ⟨rfl, rfl⟩
  go_wp2
  go_ret
  exact ⟨rfl, rfl⟩
set_option maxRecDepth 100000 in
theorem len_no (w : World) (v : Value) (h : Calls Try.prog 28 #[v] w (RetS (.bool false) w)) : Calls Try.prog 21 #[v] w (RetS (.int .i64 0) w) := by
  have MD := Lib.hid h
  clear h
  go_enter Try.func21, Try.ntmps21
  go_wp2_with fail
  refine MD.out.mono ?_
  rintro e w1 ⟨rfl, rfl⟩
  go_wp2
  go_ret
  exact ⟨rfl, rfl⟩
end Go.Proofs.Ytidjggaffioekaa
