/- Several texts in one: EvK, EvL. -/
import Derived.Test.YtjhknmklejkknaaEvJ
import Derived.Test.YtjhknmklejkknaaEvE
section
namespace Go.Proofs.Ytjhknmklejkknaa
open Go.RowKit
set_option linter.unusedVariables false
/-- An environment under construction: its first j rows stand. -/
structure BS (w w3 : World) (b6 : Nat) (s0 s2 s3 : Value) (V : List Bool) (Rows : List (List Int)) (T P : List Int) (j : Nat) (V1 : Value) (Vs : List Value) (wr : World) : Prop where
  box : IsB wr b6 42 #[s0, V1, s2, s3]
  rows : OR wr w3.heap.size V1 (Rows.take j) Vs
  r1 : NB wr w.heap.size s0 V
  r2 : NU wr w.heap.size s2 T
  r3 : NY wr w.heap.size s3 P
  dis : ∀ x, x < j → ∀ q, (Vs.getD x nilV).ownBlock = some q → s2.ownBlock ≠ some q
  grown : w3.grownBy wr none
theorem BS.keep0 {w w3 : World} {b6 : Nat} {s0 s2 s3 V1 : Value} {V : List Bool} {Rows : List (List Int)} {T P : List Int} {j : Nat} {Vs : List Value} {wr w2 : World} (h : BS w w3 b6 s0 s2 s3 V Rows T P j V1 Vs wr) (k : wr.grownBy w2 none) : BS w w3 b6 s0 s2 s3 V Rows T P j V1 Vs w2 :=
  ⟨h.box.keep0 k, h.rows.keep0 k, h.r1.keep0 k, h.r2.keep0 k, h.r3.keep0 k, h.dis, gb_trans h.grown k⟩
theorem BS.next {w w3 : World} {b6 : Nat} {s0 s2 s3 V1 V2 R : Value} {V : List Bool} {Rows : List (List Int)} {T P : List Int} {j : Nat} {Vs : List Value} {wr w1 w2 : World} {l : List Int}
    (h : BS w w3 b6 s0 s2 s3 V Rows T P j V1 Vs wr) (hj : j < Rows.length) (l6 : w3.heap.size ≤ b6) (k : wr.grownBy w1 none) (hl : l = Rows.getD j []) (o : NU w1 wr.heap.size R l) (hr : ∀ y ∈ l, 0 ≤ y ∧ y < 4294967296)
    (k2 : w1.grownBy w2 V1.ownBlock) (out : w2.ownsRow w3.heap.size 40 1 V2 (Vs ++ [R]).length (Vs ++ [R])) :
    IsB w2 b6 42 #[s0, V1, s2, s3] ∧ BS w w3 b6 s0 s2 s3 V Rows T P (j + 1) V2 (Vs ++ [R]) (w2.setCell ⟨b6, 1, none⟩ V2) := by
  have ro := own_keep0 h.rows.out k
  have rn := h.rows.nV
  have tl : (Rows.take j).length = j := by rw [List.length_take]; omega
  rw [tl] at rn
  have bx := isb_past (h.box.keep0 k) ro (by decide) k2
  have mo := OR.more h.rows k l (own_low o h.grown.size) (fun q e => (World.ownsRow.lt o q e).1) hr k2 out
  have e1 : Rows.take j ++ [l] = Rows.take (j + 1) := by rw [take_one _ [] j hj, hl]
  rw [e1] at mo
  have kp : ∀ {e : TypeId} {v : Value} {n : Nat} {xs : List Value}, wr.ownsRow w.heap.size e 1 v n xs → e ≠ 40 → e ≠ 42 → World.ownsRow (w2.setCell ⟨b6, 1, none⟩ V2) w.heap.size e 1 v n xs := fun h hn hm =>
    own_keepS (own_past (own_keep0 h k) ro hn k2) (gb_set _ _ _ _) bx hm
  refine ⟨bx, bx.set 1 V2, ?_, kp h.r1 (by decide) (by decide), kp h.r2 (by decide) (by decide), kp h.r3 (by decide) (by decide), ?_, gb_put (gb_lows (gb_trans h.grown k) k2 fun q e => (World.ownsRow.lt h.rows.out q e).1) l6⟩
  · exact ⟨own_keepS mo.out (gb_set _ _ _ _) bx (by decide), fun x hx => own_keepS (mo.own x hx) (gb_set _ _ _ _) bx (by decide), mo.dis, mo.rng⟩
  · intro x hx q e
    by_cases hx2 : x = j
    · subst hx2
      have e2 : (Vs ++ [R]).getD x nilV = R := by rw [List.getD_eq_getElem?_getD, List.getElem?_append_right (by omega)]; simp [rn]
      rw [e2] at e
      intro e3
      have l1 := (World.ownsRow.lt o q e).1
      have l2 := (World.ownsRow.lt h.r2 q e3).2
      omega
    · have e2 : (Vs ++ [R]).getD x nilV = Vs.getD x nilV := by rw [List.getD_eq_getElem?_getD, List.getElem?_append_left (by omega), ← List.getD_eq_getElem?_getD]
      rw [e2] at e
      exact h.dis x (by omega) q e
/-- The whole of it, where it lies in its box. -/
theorem BS.oe {w w3 : World} {b6 n : Nat} {a0 a1 a2 a3 : Option Addr} {n0 n1 n2 n3 c0 c1 c2 c3 : Nat} {V : List Bool} {Rows : List (List Int)} {T P : List Int} {Vs : List Value} {wr : World}
    (h : BS w w3 b6 (.slice a0 n0 c0) (.slice a2 n2 c2) (.slice a3 n3 c3) V Rows T P n (.slice a1 n1 c1) Vs wr) (hw : w.grownBy w3 none) (hn : Rows.length = n) (e0 : V.length = n0) (e1 : n1 = n) (e2 : T.length = n2) (e3 : P.length = n3) (ht : ∀ x ∈ T, 0 ≤ x ∧ x < 4294967296) (hp : ∀ x ∈ P, 0 ≤ x ∧ x < 256) :
    OE wr w.heap.size ⟨a0, a1, a2, a3, n0, c0, n1, c1, n2, c2, n3, c3⟩ ⟨V, Rows, T, P⟩ Vs := by
  have ro := h.rows
  rw [List.take_of_length_le (by omega)] at ro
  refine ⟨h.r1, ro.low hw.size, h.r2, h.r3, e0, by show Rows.length = n1; omega, e2, e3, ht, hp, ?_⟩
  intro x hx q e
  exact h.dis x (by have hx : x < Rows.length := hx; omega) q e
theorem mstep_any {ops : Array Oper} {o : Oper} {a : Act} {w : World} {K : Act → World → Prop} {Q : Exit → Act → World → Prop} {Z : Prop} (hgd : o.guard = none) (l c : Operand) (t e : TypeId) (i0 : TypeInfo) (z : Value) (by_ : Nat)
    (hop : o.op = Op.makeSlice t l c) (ht : Try.prog.underlying t = some (.slice e)) (hi : Try.prog.info? e = some i0) (hz0 : i0.zero = some z) (hz1 : i0.size = 1) (hz2 : i0.bytes = by_) (hb : by_ ≤ 4) (hzc : z.cells = #[z]) (n : Nat) (hl : a.eval l = .int .i64 n) (hc : a.eval c = .int .i64 n) (hn : n ≤ 100000)
    (h : ∀ w', w'.ownsRow w.heap.size e 1 (.slice (some ⟨w.heap.size, 0, none⟩) n n) n (List.replicate n z) → w.grownBy w' none → K (a.put o.dst (.slice (some ⟨w.heap.size, 0, none⟩) n n)) w') : if Region.wanted o (yielded ops a.tmps) = true then Oper.wp Try.prog o a w K Q else Z := by
  have hw : Region.wanted o (yielded ops a.tmps) = true := by simp [Region.wanted, hgd]
  rw [if_pos hw]
  obtain ⟨w', hrun, r1, r2⟩ := run_make_full (P := Try.prog) w w.heap.size t e i0 z 1 ht hi hz0 hz1 .i64 .i64 n (by rw [hz2]; have : by_ * n ≤ 4 * 100000 := Nat.mul_le_mul hb hn; omega) (by unfold maxLen; omega) (Nat.le_refl _)
  unfold Oper.wp
  simp [execOp, hop, hl, hc, hrun, Result.andThen]
  refine h w' ?_ r2
  rw [hzc, Nat.mul_one, made_zero] at r1
  exact r1
end Go.Proofs.Ytjhknmklejkknaa
end
section
namespace Go.Proofs.Ytjhknmklejkknaa
open Go.RowKit
set_option linter.unusedVariables false
theorem new_start {w w3 wk : World} {b6 : Nat} {a1 a2 : Option Addr} {n1 n2 c1 c2 : Nat} {V : List Bool} {Rows : List (List Int)} {T : List Int} (g : w3.grownBy wk none) (l6 : w3.heap.size ≤ b6)
    (i6 : IsB wk b6 42 #[.slice none 0 0, .slice none 0 0, .slice none 0 0, .slice none 0 0]) (r1 : NB wk w.heap.size (.slice a1 n1 c1) V) (r2 : NU wk w.heap.size (.slice a2 n2 c2) T) :
    ∃ b : Nat, (Value.pointer (some ⟨b6, 0, none⟩)) = .pointer (some ⟨b, 0, none⟩) ∧ w3.heap.size ≤ b ∧ ∃ x0 x2 : Option Addr, ∃ d0 d2 : Nat, BS w w3 b (.slice x0 n1 d0) (.slice x2 n2 d2) (.slice none 0 0) V Rows T [] 0 (.slice none 0 0) [] ((((wk.setCell ⟨b6, 0, none⟩ (.slice a1 n1 c1)).setCell ⟨b6, 1, none⟩ (.slice none 0 0)).setCell ⟨b6, 2, none⟩ (.slice a2 n2 c2)).setCell ⟨b6, 3, none⟩ (.slice none 0 0)) := by
  obtain ⟨b, x0, x2, x3, d0, d2, d3, e, j4, k1, k2, k3, lw, gw⟩ := fin_env g l6 i6 r1 r2 (show NY wk w.heap.size (.slice none 0 0) [] from World.ownsRow_nil _ _ _ _)
  injection e with e; injection e with e; injection e with e; subst e
  have q := (((i6.set 0 (.slice a1 n1 c1)).set 1 (.slice none 0 0)).set 2 (.slice a2 n2 c2)).set 3 (.slice none 0 0)
  have e2 : IsB _ b6 42 #[.slice a1 n1 c1, .slice none 0 0, .slice a2 n2 c2, .slice none 0 0] := q
  have e3 := j4.symm.trans e2
  simp at e3
  obtain ⟨⟨rfl, rfl⟩, ⟨rfl, rfl⟩, rfl, rfl⟩ := e3
  exact ⟨b6, rfl, l6, _, _, _, _, e2, by rw [List.take_zero]; exact or_nil _ _, k1, k2, World.ownsRow_nil _ _ _ _, (by intro x hx; omega), gw⟩
def newE (H : List (ByteArray × List Fld)) (M : List Fld) : EL := ⟨List.replicate H.length false, H.map fun h => List.replicate h.2.length 0, List.replicate M.length 0, []⟩
theorem newE_row (H : List (ByteArray × List Fld)) (M : List Fld) (k : Nat) (h : k < H.length) : (newE H M).F.getD k [] = List.replicate (H.getD k hz).2.length 0 := by simp [newE, h]
set_option maxRecDepth 100000 in
set_option maxHeartbeats 8000000 in
theorem enew_any (w : World) (nm v3 v4 v5 v6 v7 v8 : Value) (ha ma : Option Addr) (hn hc mn mc : Nat) (H : List (ByteArray × List Fld)) (M : List Fld) (hH : SH w ha hn hc H) (hM : SF w ma mn mc M) (hb : hn ≤ 100000) (mb : mn ≤ 100000) (fb : ∀ j, (H.getD j hz).2.length ≤ 100000) :
    Calls Try.prog 77 #[.agg #[nm, .slice ha hn hc, .slice ma mn mc, v3, v4, v5, v6, v7, v8]] w (RetE (newE H M) w) := by
  have HH := Lib.hid hH
  have HL := Lib.hid hH.len
  have ML := Lib.hid hM.len
  have FB := Lib.hid fb
  have LH := Lib.hid hb
  have LM := Lib.hid mb
  obtain ⟨iU, iu, iU0, iU1, iU2⟩ := info_parts infoU32
  have IU := Lib.hid iu
  clear iu
  obtain ⟨iB, ib, iB0, iB1, iB2⟩ := info_parts infoBool
  have IB := Lib.hid ib
  clear ib
  have G3 := Lib.hid (gb_trans (gb_alloc w (.cells #[nm, .slice ha hn hc, .slice ma mn mc, v3, v4, v5, v6, v7, v8] 31) none) (gb_alloc _ (.cells #[.slice none 0 0, .slice none 0 0, .slice none 0 0, .slice none 0 0] 42) none))
  have B1 := (IsB.new w 31 #[nm, .slice ha hn hc, .slice ma mn mc, v3, v4, v5, v6, v7, v8]).alloc (.cells #[.slice none 0 0, .slice none 0 0, .slice none 0 0, .slice none 0 0] 42)
  have B2 := IsB.new (w.alloc (.cells #[nm, .slice ha hn hc, .slice ma mn mc, v3, v4, v5, v6, v7, v8] 31)) 42 #[.slice none 0 0, .slice none 0 0, .slice none 0 0, .slice none 0 0]
  simp only [sz_al] at B2
  replace B1 := Lib.hid B1
  replace B2 := Lib.hid B2
  clear hH hM hb mb fb
  go_enter Try.func77, Try.ntmps77
  go_upto_region 1 with fail
  generalize (w.alloc (.cells #[nm, .slice ha hn hc, .slice ma mn mc, v3, v4, v5, v6, v7, v8] 31)).alloc (.cells #[.slice none 0 0, .slice none 0 0, .slice none 0 0, .slice none 0 0] 42) = w3 at *
  obtain ⟨bx, hbx⟩ : ∃ b, b = w.heap.size := ⟨_, rfl⟩
  have Lbx := Lib.hid (show w.heap.size ≤ bx by rw [hbx]; exact Nat.le_refl _)
  rw [← hbx] at B1 B2 ⊢
  clear hbx
  have KT := Lib.hid (fun (w' : World) (q : w3.grownBy w' none) => (⟨(B1.out.keep0 q).cell 1, (B1.out.keep0 q).cell 2⟩ : (fun w' : World => w'.cell? ⟨bx, 1, none⟩ = some (.slice ha hn hc) ∧ w'.cell? ⟨bx, 2, none⟩ = some (.slice ma mn mc)) w'))
  go_cut [3] from 6 to 14 (fun s6 wx => ∃ b6 : Nat, s6 = .pointer (some ⟨b6, 0, none⟩) ∧ w3.heap.size ≤ b6 ∧ ∃ a0 a2 : Option Addr, ∃ c0 c2 : Nat, BS w w3 b6 (.slice a0 hn c0) (.slice a2 mn c2) (.slice none 0 0) (List.replicate hn false) (newE H M).F (List.replicate mn 0) [] 0 (.slice none 0 0) [] wx)
  case first =>
    have G := Lib.hid (gb_drew w3 none)
    refine wp_region_held_drew (S := (fun w' : World => w'.cell? ⟨bx, 1, none⟩ = some (.slice ha hn hc) ∧ w'.cell? ⟨bx, 2, none⟩ = some (.slice ma mn mc))) (by kernel_rfl) (KT.out _ G.out) (fun hH0 => ?_)
    generalize w3.drew = v0 at *
    refine wpAnyH_take (i := 0) (v := ?v85) rfl (by kernel_rfl) (by kernel_rfl) (by kernel_rfl) (fun _ _ _ h => h) (Or.inl ⟨by rfl, ?hy85⟩) (by assumption) ?rest85
    case hy85 => (intro wz hSw; (try dsimp only at hSw); first | (go_simp; done) | (go_simp; with_reducible rfl))
    try simp only [Act.put, List.getElem_toArray, List.getElem_cons_zero, List.setIfInBounds_toArray, List.set_cons_zero, List.set_cons_succ]
    refine wpAnyH_take (i := 1) (v := ?v86) rfl (by kernel_rfl) (by kernel_rfl) (by kernel_rfl) (fun _ _ _ h => h) (Or.inl ⟨by rfl, ?hy86⟩) (by assumption) ?rest86
    case hy86 => (intro wz hSw; (try dsimp only at hSw); first | (go_simp; done) | (go_simp; with_reducible rfl))
    try simp only [Act.put, List.getElem_toArray, List.getElem_cons_succ, List.getElem_cons_zero, List.setIfInBounds_toArray, List.set_cons_zero, List.set_cons_succ]
    refine wpAnyH_take (i := 2) (v := ?v87) rfl (by kernel_rfl) (by kernel_rfl) (by kernel_rfl) (fun _ _ _ h => h) (Or.inl ⟨by rfl, ?hy87⟩) (by assumption) ?rest87
    case hy87 => (intro wz hSw; (try dsimp only at hSw); first | (go_simp; done) | (go_simp; with_reducible rfl))
    try simp only [Act.put, List.getElem_toArray, List.getElem_cons_succ, List.getElem_cons_zero, List.setIfInBounds_toArray, List.set_cons_zero, List.set_cons_succ]
    refine wpAnyH_take (i := 4) (v := ?v88) rfl (by kernel_rfl) (by kernel_rfl) (by kernel_rfl) (fun _ _ _ h => h) (Or.inl ⟨by rfl, ?hy88⟩) (by assumption) ?rest88
    case hy88 => (intro wz hSw; (try dsimp only at hSw); first | (go_simp; done) | (go_simp; with_reducible rfl))
    try simp only [Act.put, List.getElem_toArray, List.getElem_cons_succ, List.getElem_cons_zero, List.setIfInBounds_toArray, List.set_cons_zero, List.set_cons_succ]
    refine wpAnyH_take (i := 5) (v := ?v89) rfl (by kernel_rfl) (by kernel_rfl) (by kernel_rfl) (fun _ _ _ h => h) (Or.inl ⟨by rfl, ?hy89⟩) (by assumption) ?rest89
    case hy89 => (intro wz hSw; (try dsimp only at hSw); first | (go_simp; done) | (go_simp; with_reducible rfl))
    try simp only [Act.put, List.getElem_toArray, List.getElem_cons_succ, List.getElem_cons_zero, List.setIfInBounds_toArray, List.set_cons_zero, List.set_cons_succ]
    refine wpAnyH_take (i := 6) (v := ?v90) rfl (by kernel_rfl) (by kernel_rfl) (by kernel_rfl) (fun _ _ _ h => h) (Or.inl ⟨by rfl, ?hy90⟩) (by assumption) ?rest90
    case hy90 => (intro wz hSw; (try dsimp only at hSw); first | (go_simp; done) | (go_simp; with_reducible rfl))
    try simp only [Act.put, List.getElem_toArray, List.getElem_cons_succ, List.getElem_cons_zero, List.setIfInBounds_toArray, List.set_cons_zero, List.set_cons_succ]
    refine wpAnyH_ready (rs := [3, 7, 9]) (by kernel_rfl) (by simp) ?_
    refine AllReadyH.cons (o := _) rfl (fun K hK => ?_) ?_
    · refine mstep_any rfl _ _ 38 4 iB (.bool false) 1 rfl Try.underlying38 IB.out iB0 iB1 iB2 (by decide) rfl hn rfl rfl LH.out ?_
      intro v1 o5 g5
      have R1 := Lib.hid (show NB v1 w.heap.size (.slice (some ⟨v0.heap.size, 0, none⟩) hn hn) (List.replicate hn false) by have k := own_low o5 (Nat.le_trans G3.out.size G.out.size); unfold NB; rw [List.length_replicate, List.map_replicate]; exact k)
      replace G := Lib.hid (gb_trans G.out g5)
      refine hK.out _ _ (KT.out _ G.out) (fun hH1 => ?_)
      clear hK K o5 g5
      try simp only [Act.put, List.getElem_toArray, List.getElem_cons_succ, List.getElem_cons_zero, List.setIfInBounds_toArray, List.set_cons_zero, List.set_cons_succ]
      obtain ⟨g1, hg1⟩ : ∃ b, b = v0.heap.size := ⟨_, rfl⟩
      rw [← hg1] at R1 ⊢
      clear hg1
      refine wpAnyH_ready (rs := [7, 9]) (by kernel_rfl) (by simp) ?_
      refine AllReadyH.cons (o := _) rfl (fun K hK => ?_) ?_
      · refine mstep_any rfl _ _ 40 58 iU (.int .u32 0) 4 rfl Try.underlying40 IU.out iU0 iU1 iU2 (by decide) rfl mn rfl rfl LM.out ?_
        intro v2 o5 g5
        have R2 := Lib.hid (show NU v2 w.heap.size (.slice (some ⟨v1.heap.size, 0, none⟩) mn mn) (List.replicate mn 0) by have k := own_low o5 (Nat.le_trans G3.out.size G.out.size); unfold NU; rw [List.length_replicate, List.map_replicate]; exact k)
        replace R1 := Lib.hid (R1.out.keep0 g5)
        replace G := Lib.hid (gb_trans G.out g5)
        refine hK.out _ _ (KT.out _ G.out) (fun hH2 => ?_)
        clear hK K o5 g5
        try simp only [Act.put, List.getElem_toArray, List.getElem_cons_succ, List.getElem_cons_zero, List.setIfInBounds_toArray, List.set_cons_zero, List.set_cons_succ]
        obtain ⟨g2, hg2⟩ : ∃ b, b = v1.heap.size := ⟨_, rfl⟩
        rw [← hg2] at R2 ⊢
        clear hg2
        refine wpAnyH_take (i := 8) (v := ?v91) rfl (by kernel_rfl) (by kernel_rfl) (by kernel_rfl) (fun _ _ _ h => h) (Or.inl ⟨by rfl, ?hy91⟩) (by assumption) ?rest91
        case hy91 => (intro wz hSw; (try dsimp only at hSw); first | (go_simp; done) | (go_simp; with_reducible rfl))
        try simp only [Act.put, List.getElem_toArray, List.getElem_cons_succ, List.getElem_cons_zero, List.setIfInBounds_toArray, List.set_cons_zero, List.set_cons_succ]
        refine wpAnyH_ready (rs := [9]) (by kernel_rfl) (by simp) ?_
        refine AllReadyH.cons (o := _) rfl (fun K hK => ?_) ?_
        · go_simp
          have g := gb_alloc v2 (.cells #[.slice none 0 0, .slice none 0 0, .slice none 0 0, .slice none 0 0] 42) none
          have nb := IsB.new v2 42 #[.slice none 0 0, .slice none 0 0, .slice none 0 0, .slice none 0 0]
          refine hK.out _ _ (KT.out _ (gb_trans G.out g)) (fun hH3 => ?_)
          clear hK K
          replace R1 := Lib.hid (R1.out.keep0 g)
          replace R2 := Lib.hid (R2.out.keep0 g)
          have L6x : w3.heap.size ≤ v2.heap.size := G.out.size
          replace G := Lib.hid (gb_trans G.out g)
          have I6 := Lib.hid nb
          have L6 := Lib.hid L6x
          obtain ⟨b6, hb6⟩ : ∃ b, b = v2.heap.size := ⟨_, rfl⟩
          rw [← hb6] at I6 L6 ⊢
          clear g nb hb6 L6x
          generalize v2.alloc (.cells #[.slice none 0 0, .slice none 0 0, .slice none 0 0, .slice none 0 0] 42) = v3 at *
          try simp only [Act.put, List.getElem_toArray, List.getElem_cons_succ, List.getElem_cons_zero, List.setIfInBounds_toArray, List.set_cons_zero, List.set_cons_succ]
          have q0 := I6.out.cell 0
          have q1 := I6.out.cell 1
          have q2 := I6.out.cell 2
          have q3 := I6.out.cell 3
          dsimp at q0 q1 q2 q3
          have f0 := I6.out.free 0
          have f1 := I6.out.free 1
          have f2 := I6.out.free 2
          have f3 := I6.out.free 3
          refine wpAnyH_ready (rs := [10]) (by kernel_rfl) (by simp) ?_
          refine AllReadyH.cons (o := _) rfl (fun K hK => ?_) AllReadyH.nil
          go_simp
          refine hK.out _ _ (KT.out _ (gb_put (gb_put (gb_put (gb_put G.out L6.out) L6.out) L6.out) L6.out)) (fun hH99 => ?_)
          clear hK K hH99
          try simp only [Act.put, List.getElem_toArray, List.getElem_cons_succ, List.getElem_cons_zero, List.setIfInBounds_toArray, List.set_cons_zero, List.set_cons_succ]
          refine wpAnyH_done (by kernel_rfl) ?_ _
          go_wp2_with fail
          go_meet
          exact new_start G.out L6.out I6.out R1.out R2.out
        exact AllReadyH.nil
      refine AllReadyH.cons (o := _) rfl (fun K hK => ?_) ?_
      · go_simp
        have g := gb_alloc v1 (.cells #[.slice none 0 0, .slice none 0 0, .slice none 0 0, .slice none 0 0] 42) none
        have nb := IsB.new v1 42 #[.slice none 0 0, .slice none 0 0, .slice none 0 0, .slice none 0 0]
        refine hK.out _ _ (KT.out _ (gb_trans G.out g)) (fun hH4 => ?_)
        clear hK K
        replace R1 := Lib.hid (R1.out.keep0 g)
        have L6x : w3.heap.size ≤ v1.heap.size := G.out.size
        replace G := Lib.hid (gb_trans G.out g)
        have I6 := Lib.hid nb
        have L6 := Lib.hid L6x
        obtain ⟨b6, hb6⟩ : ∃ b, b = v1.heap.size := ⟨_, rfl⟩
        rw [← hb6] at I6 L6 ⊢
        clear g nb hb6 L6x
        generalize v1.alloc (.cells #[.slice none 0 0, .slice none 0 0, .slice none 0 0, .slice none 0 0] 42) = v4 at *
        try simp only [Act.put, List.getElem_toArray, List.getElem_cons_succ, List.getElem_cons_zero, List.setIfInBounds_toArray, List.set_cons_zero, List.set_cons_succ]
        refine wpAnyH_ready (rs := [7]) (by kernel_rfl) (by simp) ?_
        refine AllReadyH.cons (o := _) rfl (fun K hK => ?_) ?_
        · refine mstep_any rfl _ _ 40 58 iU (.int .u32 0) 4 rfl Try.underlying40 IU.out iU0 iU1 iU2 (by decide) rfl mn rfl rfl LM.out ?_
          intro v5 o5 g5
          have R2 := Lib.hid (show NU v5 w.heap.size (.slice (some ⟨v4.heap.size, 0, none⟩) mn mn) (List.replicate mn 0) by have k := own_low o5 (Nat.le_trans G3.out.size G.out.size); unfold NU; rw [List.length_replicate, List.map_replicate]; exact k)
          replace R1 := Lib.hid (R1.out.keep0 g5)
          replace I6 := Lib.hid (I6.out.keep0 g5)
          replace G := Lib.hid (gb_trans G.out g5)
          refine hK.out _ _ (KT.out _ G.out) (fun hH5 => ?_)
          clear hK K o5 g5
          try simp only [Act.put, List.getElem_toArray, List.getElem_cons_succ, List.getElem_cons_zero, List.setIfInBounds_toArray, List.set_cons_zero, List.set_cons_succ]
          obtain ⟨g2, hg2⟩ : ∃ b, b = v4.heap.size := ⟨_, rfl⟩
          rw [← hg2] at R2 ⊢
          clear hg2
          refine wpAnyH_take (i := 8) (v := ?v92) rfl (by kernel_rfl) (by kernel_rfl) (by kernel_rfl) (fun _ _ _ h => h) (Or.inl ⟨by rfl, ?hy92⟩) (by assumption) ?rest92
          case hy92 => (intro wz hSw; (try dsimp only at hSw); first | (go_simp; done) | (go_simp; with_reducible rfl))
          try simp only [Act.put, List.getElem_toArray, List.getElem_cons_succ, List.getElem_cons_zero, List.setIfInBounds_toArray, List.set_cons_zero, List.set_cons_succ]
          have q0 := I6.out.cell 0
          have q1 := I6.out.cell 1
          have q2 := I6.out.cell 2
          have q3 := I6.out.cell 3
          dsimp at q0 q1 q2 q3
          have f0 := I6.out.free 0
          have f1 := I6.out.free 1
          have f2 := I6.out.free 2
          have f3 := I6.out.free 3
          refine wpAnyH_ready (rs := [10]) (by kernel_rfl) (by simp) ?_
          refine AllReadyH.cons (o := _) rfl (fun K hK => ?_) AllReadyH.nil
          go_simp
          refine hK.out _ _ (KT.out _ (gb_put (gb_put (gb_put (gb_put G.out L6.out) L6.out) L6.out) L6.out)) (fun hH99 => ?_)
          clear hK K hH99
          try simp only [Act.put, List.getElem_toArray, List.getElem_cons_succ, List.getElem_cons_zero, List.setIfInBounds_toArray, List.set_cons_zero, List.set_cons_succ]
          refine wpAnyH_done (by kernel_rfl) ?_ _
          go_wp2_with fail
          go_meet
          exact new_start G.out L6.out I6.out R1.out R2.out
        exact AllReadyH.nil
      exact AllReadyH.nil
    refine AllReadyH.cons (o := _) rfl (fun K hK => ?_) ?_
    · refine mstep_any rfl _ _ 40 58 iU (.int .u32 0) 4 rfl Try.underlying40 IU.out iU0 iU1 iU2 (by decide) rfl mn rfl rfl LM.out ?_
      intro v6 o5 g5
      have R2 := Lib.hid (show NU v6 w.heap.size (.slice (some ⟨v0.heap.size, 0, none⟩) mn mn) (List.replicate mn 0) by have k := own_low o5 (Nat.le_trans G3.out.size G.out.size); unfold NU; rw [List.length_replicate, List.map_replicate]; exact k)
      replace G := Lib.hid (gb_trans G.out g5)
      refine hK.out _ _ (KT.out _ G.out) (fun hH6 => ?_)
      clear hK K o5 g5
      try simp only [Act.put, List.getElem_toArray, List.getElem_cons_succ, List.getElem_cons_zero, List.setIfInBounds_toArray, List.set_cons_zero, List.set_cons_succ]
      obtain ⟨g2, hg2⟩ : ∃ b, b = v0.heap.size := ⟨_, rfl⟩
      rw [← hg2] at R2 ⊢
      clear hg2
      refine wpAnyH_ready (rs := [3, 9]) (by kernel_rfl) (by simp) ?_
      refine AllReadyH.cons (o := _) rfl (fun K hK => ?_) ?_
      · refine mstep_any rfl _ _ 38 4 iB (.bool false) 1 rfl Try.underlying38 IB.out iB0 iB1 iB2 (by decide) rfl hn rfl rfl LH.out ?_
        intro v7 o5 g5
        have R1 := Lib.hid (show NB v7 w.heap.size (.slice (some ⟨v6.heap.size, 0, none⟩) hn hn) (List.replicate hn false) by have k := own_low o5 (Nat.le_trans G3.out.size G.out.size); unfold NB; rw [List.length_replicate, List.map_replicate]; exact k)
        replace R2 := Lib.hid (R2.out.keep0 g5)
        replace G := Lib.hid (gb_trans G.out g5)
        refine hK.out _ _ (KT.out _ G.out) (fun hH7 => ?_)
        clear hK K o5 g5
        try simp only [Act.put, List.getElem_toArray, List.getElem_cons_succ, List.getElem_cons_zero, List.setIfInBounds_toArray, List.set_cons_zero, List.set_cons_succ]
        obtain ⟨g1, hg1⟩ : ∃ b, b = v6.heap.size := ⟨_, rfl⟩
        rw [← hg1] at R1 ⊢
        clear hg1
        refine wpAnyH_take (i := 8) (v := ?v93) rfl (by kernel_rfl) (by kernel_rfl) (by kernel_rfl) (fun _ _ _ h => h) (Or.inl ⟨by rfl, ?hy93⟩) (by assumption) ?rest93
        case hy93 => (intro wz hSw; (try dsimp only at hSw); first | (go_simp; done) | (go_simp; with_reducible rfl))
        try simp only [Act.put, List.getElem_toArray, List.getElem_cons_succ, List.getElem_cons_zero, List.setIfInBounds_toArray, List.set_cons_zero, List.set_cons_succ]
        refine wpAnyH_ready (rs := [9]) (by kernel_rfl) (by simp) ?_
        refine AllReadyH.cons (o := _) rfl (fun K hK => ?_) ?_
        · go_simp
          have g := gb_alloc v7 (.cells #[.slice none 0 0, .slice none 0 0, .slice none 0 0, .slice none 0 0] 42) none
          have nb := IsB.new v7 42 #[.slice none 0 0, .slice none 0 0, .slice none 0 0, .slice none 0 0]
          refine hK.out _ _ (KT.out _ (gb_trans G.out g)) (fun hH8 => ?_)
          clear hK K
          replace R2 := Lib.hid (R2.out.keep0 g)
          replace R1 := Lib.hid (R1.out.keep0 g)
          have L6x : w3.heap.size ≤ v7.heap.size := G.out.size
          replace G := Lib.hid (gb_trans G.out g)
          have I6 := Lib.hid nb
          have L6 := Lib.hid L6x
          obtain ⟨b6, hb6⟩ : ∃ b, b = v7.heap.size := ⟨_, rfl⟩
          rw [← hb6] at I6 L6 ⊢
          clear g nb hb6 L6x
          generalize v7.alloc (.cells #[.slice none 0 0, .slice none 0 0, .slice none 0 0, .slice none 0 0] 42) = v8 at *
          try simp only [Act.put, List.getElem_toArray, List.getElem_cons_succ, List.getElem_cons_zero, List.setIfInBounds_toArray, List.set_cons_zero, List.set_cons_succ]
          have q0 := I6.out.cell 0
          have q1 := I6.out.cell 1
          have q2 := I6.out.cell 2
          have q3 := I6.out.cell 3
          dsimp at q0 q1 q2 q3
          have f0 := I6.out.free 0
          have f1 := I6.out.free 1
          have f2 := I6.out.free 2
          have f3 := I6.out.free 3
          refine wpAnyH_ready (rs := [10]) (by kernel_rfl) (by simp) ?_
          refine AllReadyH.cons (o := _) rfl (fun K hK => ?_) AllReadyH.nil
          go_simp
          refine hK.out _ _ (KT.out _ (gb_put (gb_put (gb_put (gb_put G.out L6.out) L6.out) L6.out) L6.out)) (fun hH99 => ?_)
          clear hK K hH99
          try simp only [Act.put, List.getElem_toArray, List.getElem_cons_succ, List.getElem_cons_zero, List.setIfInBounds_toArray, List.set_cons_zero, List.set_cons_succ]
          refine wpAnyH_done (by kernel_rfl) ?_ _
          go_wp2_with fail
          go_meet
          exact new_start G.out L6.out I6.out R1.out R2.out
        exact AllReadyH.nil
      refine AllReadyH.cons (o := _) rfl (fun K hK => ?_) ?_
      · go_simp
        have g := gb_alloc v6 (.cells #[.slice none 0 0, .slice none 0 0, .slice none 0 0, .slice none 0 0] 42) none
        have nb := IsB.new v6 42 #[.slice none 0 0, .slice none 0 0, .slice none 0 0, .slice none 0 0]
        refine hK.out _ _ (KT.out _ (gb_trans G.out g)) (fun hH9 => ?_)
        clear hK K
        replace R2 := Lib.hid (R2.out.keep0 g)
        have L6x : w3.heap.size ≤ v6.heap.size := G.out.size
        replace G := Lib.hid (gb_trans G.out g)
        have I6 := Lib.hid nb
        have L6 := Lib.hid L6x
        obtain ⟨b6, hb6⟩ : ∃ b, b = v6.heap.size := ⟨_, rfl⟩
        rw [← hb6] at I6 L6 ⊢
        clear g nb hb6 L6x
        generalize v6.alloc (.cells #[.slice none 0 0, .slice none 0 0, .slice none 0 0, .slice none 0 0] 42) = v9 at *
        try simp only [Act.put, List.getElem_toArray, List.getElem_cons_succ, List.getElem_cons_zero, List.setIfInBounds_toArray, List.set_cons_zero, List.set_cons_succ]
        refine wpAnyH_ready (rs := [3]) (by kernel_rfl) (by simp) ?_
        refine AllReadyH.cons (o := _) rfl (fun K hK => ?_) ?_
        · refine mstep_any rfl _ _ 38 4 iB (.bool false) 1 rfl Try.underlying38 IB.out iB0 iB1 iB2 (by decide) rfl hn rfl rfl LH.out ?_
          intro v10 o5 g5
          have R1 := Lib.hid (show NB v10 w.heap.size (.slice (some ⟨v9.heap.size, 0, none⟩) hn hn) (List.replicate hn false) by have k := own_low o5 (Nat.le_trans G3.out.size G.out.size); unfold NB; rw [List.length_replicate, List.map_replicate]; exact k)
          replace R2 := Lib.hid (R2.out.keep0 g5)
          replace I6 := Lib.hid (I6.out.keep0 g5)
          replace G := Lib.hid (gb_trans G.out g5)
          refine hK.out _ _ (KT.out _ G.out) (fun hH10 => ?_)
          clear hK K o5 g5
          try simp only [Act.put, List.getElem_toArray, List.getElem_cons_succ, List.getElem_cons_zero, List.setIfInBounds_toArray, List.set_cons_zero, List.set_cons_succ]
          obtain ⟨g1, hg1⟩ : ∃ b, b = v9.heap.size := ⟨_, rfl⟩
          rw [← hg1] at R1 ⊢
          clear hg1
          refine wpAnyH_take (i := 8) (v := ?v94) rfl (by kernel_rfl) (by kernel_rfl) (by kernel_rfl) (fun _ _ _ h => h) (Or.inl ⟨by rfl, ?hy94⟩) (by assumption) ?rest94
          case hy94 => (intro wz hSw; (try dsimp only at hSw); first | (go_simp; done) | (go_simp; with_reducible rfl))
          try simp only [Act.put, List.getElem_toArray, List.getElem_cons_succ, List.getElem_cons_zero, List.setIfInBounds_toArray, List.set_cons_zero, List.set_cons_succ]
          have q0 := I6.out.cell 0
          have q1 := I6.out.cell 1
          have q2 := I6.out.cell 2
          have q3 := I6.out.cell 3
          dsimp at q0 q1 q2 q3
          have f0 := I6.out.free 0
          have f1 := I6.out.free 1
          have f2 := I6.out.free 2
          have f3 := I6.out.free 3
          refine wpAnyH_ready (rs := [10]) (by kernel_rfl) (by simp) ?_
          refine AllReadyH.cons (o := _) rfl (fun K hK => ?_) AllReadyH.nil
          go_simp
          refine hK.out _ _ (KT.out _ (gb_put (gb_put (gb_put (gb_put G.out L6.out) L6.out) L6.out) L6.out)) (fun hH99 => ?_)
          clear hK K hH99
          try simp only [Act.put, List.getElem_toArray, List.getElem_cons_succ, List.getElem_cons_zero, List.setIfInBounds_toArray, List.set_cons_zero, List.set_cons_succ]
          refine wpAnyH_done (by kernel_rfl) ?_ _
          go_wp2_with fail
          go_meet
          exact new_start G.out L6.out I6.out R1.out R2.out
        exact AllReadyH.nil
      exact AllReadyH.nil
    refine AllReadyH.cons (o := _) rfl (fun K hK => ?_) ?_
    · go_simp
      have g := gb_alloc v0 (.cells #[.slice none 0 0, .slice none 0 0, .slice none 0 0, .slice none 0 0] 42) none
      have nb := IsB.new v0 42 #[.slice none 0 0, .slice none 0 0, .slice none 0 0, .slice none 0 0]
      refine hK.out _ _ (KT.out _ (gb_trans G.out g)) (fun hH11 => ?_)
      clear hK K
      have L6x : w3.heap.size ≤ v0.heap.size := G.out.size
      replace G := Lib.hid (gb_trans G.out g)
      have I6 := Lib.hid nb
      have L6 := Lib.hid L6x
      obtain ⟨b6, hb6⟩ : ∃ b, b = v0.heap.size := ⟨_, rfl⟩
      rw [← hb6] at I6 L6 ⊢
      clear g nb hb6 L6x
      generalize v0.alloc (.cells #[.slice none 0 0, .slice none 0 0, .slice none 0 0, .slice none 0 0] 42) = v11 at *
      try simp only [Act.put, List.getElem_toArray, List.getElem_cons_succ, List.getElem_cons_zero, List.setIfInBounds_toArray, List.set_cons_zero, List.set_cons_succ]
      refine wpAnyH_ready (rs := [3, 7]) (by kernel_rfl) (by simp) ?_
      refine AllReadyH.cons (o := _) rfl (fun K hK => ?_) ?_
      · refine mstep_any rfl _ _ 38 4 iB (.bool false) 1 rfl Try.underlying38 IB.out iB0 iB1 iB2 (by decide) rfl hn rfl rfl LH.out ?_
        intro v12 o5 g5
        have R1 := Lib.hid (show NB v12 w.heap.size (.slice (some ⟨v11.heap.size, 0, none⟩) hn hn) (List.replicate hn false) by have k := own_low o5 (Nat.le_trans G3.out.size G.out.size); unfold NB; rw [List.length_replicate, List.map_replicate]; exact k)
        replace I6 := Lib.hid (I6.out.keep0 g5)
        replace G := Lib.hid (gb_trans G.out g5)
        refine hK.out _ _ (KT.out _ G.out) (fun hH12 => ?_)
        clear hK K o5 g5
        try simp only [Act.put, List.getElem_toArray, List.getElem_cons_succ, List.getElem_cons_zero, List.setIfInBounds_toArray, List.set_cons_zero, List.set_cons_succ]
        obtain ⟨g1, hg1⟩ : ∃ b, b = v11.heap.size := ⟨_, rfl⟩
        rw [← hg1] at R1 ⊢
        clear hg1
        refine wpAnyH_ready (rs := [7]) (by kernel_rfl) (by simp) ?_
        refine AllReadyH.cons (o := _) rfl (fun K hK => ?_) ?_
        · refine mstep_any rfl _ _ 40 58 iU (.int .u32 0) 4 rfl Try.underlying40 IU.out iU0 iU1 iU2 (by decide) rfl mn rfl rfl LM.out ?_
          intro v13 o5 g5
          have R2 := Lib.hid (show NU v13 w.heap.size (.slice (some ⟨v12.heap.size, 0, none⟩) mn mn) (List.replicate mn 0) by have k := own_low o5 (Nat.le_trans G3.out.size G.out.size); unfold NU; rw [List.length_replicate, List.map_replicate]; exact k)
          replace I6 := Lib.hid (I6.out.keep0 g5)
          replace R1 := Lib.hid (R1.out.keep0 g5)
          replace G := Lib.hid (gb_trans G.out g5)
          refine hK.out _ _ (KT.out _ G.out) (fun hH13 => ?_)
          clear hK K o5 g5
          try simp only [Act.put, List.getElem_toArray, List.getElem_cons_succ, List.getElem_cons_zero, List.setIfInBounds_toArray, List.set_cons_zero, List.set_cons_succ]
          obtain ⟨g2, hg2⟩ : ∃ b, b = v12.heap.size := ⟨_, rfl⟩
          rw [← hg2] at R2 ⊢
          clear hg2
          refine wpAnyH_take (i := 8) (v := ?v95) rfl (by kernel_rfl) (by kernel_rfl) (by kernel_rfl) (fun _ _ _ h => h) (Or.inl ⟨by rfl, ?hy95⟩) (by assumption) ?rest95
          case hy95 => (intro wz hSw; (try dsimp only at hSw); first | (go_simp; done) | (go_simp; with_reducible rfl))
          try simp only [Act.put, List.getElem_toArray, List.getElem_cons_succ, List.getElem_cons_zero, List.setIfInBounds_toArray, List.set_cons_zero, List.set_cons_succ]
          have q0 := I6.out.cell 0
          have q1 := I6.out.cell 1
          have q2 := I6.out.cell 2
          have q3 := I6.out.cell 3
          dsimp at q0 q1 q2 q3
          have f0 := I6.out.free 0
          have f1 := I6.out.free 1
          have f2 := I6.out.free 2
          have f3 := I6.out.free 3
          refine wpAnyH_ready (rs := [10]) (by kernel_rfl) (by simp) ?_
          refine AllReadyH.cons (o := _) rfl (fun K hK => ?_) AllReadyH.nil
          go_simp
          refine hK.out _ _ (KT.out _ (gb_put (gb_put (gb_put (gb_put G.out L6.out) L6.out) L6.out) L6.out)) (fun hH99 => ?_)
          clear hK K hH99
          try simp only [Act.put, List.getElem_toArray, List.getElem_cons_succ, List.getElem_cons_zero, List.setIfInBounds_toArray, List.set_cons_zero, List.set_cons_succ]
          refine wpAnyH_done (by kernel_rfl) ?_ _
          go_wp2_with fail
          go_meet
          exact new_start G.out L6.out I6.out R1.out R2.out
        exact AllReadyH.nil
      refine AllReadyH.cons (o := _) rfl (fun K hK => ?_) ?_
      · refine mstep_any rfl _ _ 40 58 iU (.int .u32 0) 4 rfl Try.underlying40 IU.out iU0 iU1 iU2 (by decide) rfl mn rfl rfl LM.out ?_
        intro v14 o5 g5
        have R2 := Lib.hid (show NU v14 w.heap.size (.slice (some ⟨v11.heap.size, 0, none⟩) mn mn) (List.replicate mn 0) by have k := own_low o5 (Nat.le_trans G3.out.size G.out.size); unfold NU; rw [List.length_replicate, List.map_replicate]; exact k)
        replace I6 := Lib.hid (I6.out.keep0 g5)
        replace G := Lib.hid (gb_trans G.out g5)
        refine hK.out _ _ (KT.out _ G.out) (fun hH14 => ?_)
        clear hK K o5 g5
        try simp only [Act.put, List.getElem_toArray, List.getElem_cons_succ, List.getElem_cons_zero, List.setIfInBounds_toArray, List.set_cons_zero, List.set_cons_succ]
        obtain ⟨g2, hg2⟩ : ∃ b, b = v11.heap.size := ⟨_, rfl⟩
        rw [← hg2] at R2 ⊢
        clear hg2
        refine wpAnyH_ready (rs := [3]) (by kernel_rfl) (by simp) ?_
        refine AllReadyH.cons (o := _) rfl (fun K hK => ?_) ?_
        · refine mstep_any rfl _ _ 38 4 iB (.bool false) 1 rfl Try.underlying38 IB.out iB0 iB1 iB2 (by decide) rfl hn rfl rfl LH.out ?_
          intro v15 o5 g5
          have R1 := Lib.hid (show NB v15 w.heap.size (.slice (some ⟨v14.heap.size, 0, none⟩) hn hn) (List.replicate hn false) by have k := own_low o5 (Nat.le_trans G3.out.size G.out.size); unfold NB; rw [List.length_replicate, List.map_replicate]; exact k)
          replace I6 := Lib.hid (I6.out.keep0 g5)
          replace R2 := Lib.hid (R2.out.keep0 g5)
          replace G := Lib.hid (gb_trans G.out g5)
          refine hK.out _ _ (KT.out _ G.out) (fun hH15 => ?_)
          clear hK K o5 g5
          try simp only [Act.put, List.getElem_toArray, List.getElem_cons_succ, List.getElem_cons_zero, List.setIfInBounds_toArray, List.set_cons_zero, List.set_cons_succ]
          obtain ⟨g1, hg1⟩ : ∃ b, b = v14.heap.size := ⟨_, rfl⟩
          rw [← hg1] at R1 ⊢
          clear hg1
          refine wpAnyH_take (i := 8) (v := ?v96) rfl (by kernel_rfl) (by kernel_rfl) (by kernel_rfl) (fun _ _ _ h => h) (Or.inl ⟨by rfl, ?hy96⟩) (by assumption) ?rest96
          case hy96 => (intro wz hSw; (try dsimp only at hSw); first | (go_simp; done) | (go_simp; with_reducible rfl))
          try simp only [Act.put, List.getElem_toArray, List.getElem_cons_succ, List.getElem_cons_zero, List.setIfInBounds_toArray, List.set_cons_zero, List.set_cons_succ]
          have q0 := I6.out.cell 0
          have q1 := I6.out.cell 1
          have q2 := I6.out.cell 2
          have q3 := I6.out.cell 3
          dsimp at q0 q1 q2 q3
          have f0 := I6.out.free 0
          have f1 := I6.out.free 1
          have f2 := I6.out.free 2
          have f3 := I6.out.free 3
          refine wpAnyH_ready (rs := [10]) (by kernel_rfl) (by simp) ?_
          refine AllReadyH.cons (o := _) rfl (fun K hK => ?_) AllReadyH.nil
          go_simp
          refine hK.out _ _ (KT.out _ (gb_put (gb_put (gb_put (gb_put G.out L6.out) L6.out) L6.out) L6.out)) (fun hH99 => ?_)
          clear hK K hH99
          try simp only [Act.put, List.getElem_toArray, List.getElem_cons_succ, List.getElem_cons_zero, List.setIfInBounds_toArray, List.set_cons_zero, List.set_cons_succ]
          refine wpAnyH_done (by kernel_rfl) ?_ _
          go_wp2_with fail
          go_meet
          exact new_start G.out L6.out I6.out R1.out R2.out
        exact AllReadyH.nil
      exact AllReadyH.nil
    exact AllReadyH.nil
  case rest =>
    obtain ⟨b6, rfl, l6, a0, a2, c0, c2, bs⟩ := hcut
    have L6 := Lib.hid l6
    have S0 := Lib.hid bs
    have x1 := (B1.out.keep0 bs.grown).cell 1
    dsimp at x1
    clear l6 bs KT
    go_wp2
    clear x1
    go_loopw [18] (fun i wr => ∃ (k : Nat) (V1 : Value) (Vs : List Value), k ≤ hn ∧ i = .int .i64 k ∧ BS w w3 b6 (.slice a0 hn c0) (.slice a2 mn c2) (.slice none 0 0) (List.replicate hn false) (newE H M).F (List.replicate mn 0) [] k V1 Vs wr) (fun i _ => hn - (intOf i).toNat)
    case atStart => exact ⟨0, _, _, Nat.zero_le _, rfl, S0.out⟩
    case round =>
      obtain ⟨k, V1, Vs, hk, rfl, hs⟩ := hrel
      have HS0 := Lib.hid hs
      clear hs S0
      have RL := Lib.hid (show (newE H M).F.length = hn by rw [← HL.out]; simp [newE])
      by_cases hlt : k < hn
      · have WR := Lib.hid (gb_trans G3.out HS0.out.grown)
        obtain ⟨ad, had⟩ := HH.out.some (by omega)
        obtain ⟨d0, fa, n5, fc, d1, sf⟩ := (HH.out.keep0 WR.out).cells ad had k hlt
        have LN5 := Lib.hid (show n5 ≤ 100000 by rw [← sf.len]; exact FB.out k)
        have HLN := Lib.hid (show List.replicate n5 0 = (newE H M).F.getD k [] by rw [newE_row H M k (by rw [HL.out]; exact hlt), sf.len])
        have i1 : (k : Int) < hn := by omega
        have i0 : (0 : Int) ≤ (k : Int) := by omega
        have hw : IntKind.i64.wrap ((k : Int) + 1) = ((k + 1 : Nat) : Int) := by have := LH.out; rw [IntKind.wrap_i64]; omega
        generalize (H.getD k hz).1 = hnm at *
        have NH := IsB.new wr 66 #[.string hnm, .slice fa n5 fc]
        have HS := Lib.hid (HS0.out.keep0 (gb_alloc wr (.cells #[.string hnm, .slice fa n5 fc] 66) none))
        have HNE := Lib.hid (show wr.heap.size ≠ b6 from Ne.symm (Nat.ne_of_lt HS0.out.box.lt))
        have VL := Lib.hid (show Vs.length + 1 ≤ 1000000 by have h1 := HS0.out.rows.nV; rw [List.length_take, RL.out] at h1; have := LH.out; omega)
        have RG := Lib.hid (zero_rng n5)
        have JL := Lib.hid (show k < (newE H M).F.length by rw [RL.out]; exact hlt)
        rw [had]
        clear sf had
        go_upto_region 5 with fail
        generalize wr.alloc (.cells #[.string hnm, .slice fa n5 fc] 66) = wq at *
        generalize wr.heap.size = bh at *
        have NF := Lib.hid NH
        clear NH HS0 d0 d1
        have KT := Lib.hid (fun (w' : World) (q : IsB w' bh 66 #[.string hnm, .slice fa n5 fc]) => (q.cell 1 : (fun w' : World => w'.cell? ⟨bh, 1, none⟩ = some (.slice fa n5 fc)) w'))
        have G := Lib.hid (gb_drew wq none)
        refine wp_region_held_drew (S := (fun w' : World => w'.cell? ⟨bh, 1, none⟩ = some (.slice fa n5 fc))) (by kernel_rfl) (KT.out _ (NF.out.keep0 G.out)) (fun hH0 => ?_)
        generalize wq.drew = v0 at *
        refine wpAnyH_take (i := 0) (v := ?v97) rfl (by kernel_rfl) (by kernel_rfl) (by kernel_rfl) (fun _ _ _ h => h) (Or.inl ⟨by rfl, ?hy97⟩) (by assumption) ?rest97
        case hy97 => (intro wz hSw; (try dsimp only at hSw); first | (go_simp; done) | (go_simp; with_reducible rfl))
        try simp only [Act.put, List.getElem_toArray, List.getElem_cons_zero, List.setIfInBounds_toArray, List.set_cons_zero, List.set_cons_succ]
        refine wpAnyH_take (i := 2) (v := ?v98) rfl (by kernel_rfl) (by kernel_rfl) (by kernel_rfl) (fun _ _ _ h => h) (Or.inl ⟨by rfl, ?hy98⟩) (by assumption) ?rest98
        case hy98 => (intro wz hSw; (try dsimp only at hSw); first | (go_simp; done) | (go_simp; with_reducible rfl))
        try simp only [Act.put, List.getElem_toArray, List.getElem_cons_succ, List.getElem_cons_zero, List.setIfInBounds_toArray, List.set_cons_zero, List.set_cons_succ]
        refine wpAnyH_take (i := 3) (v := ?v99) rfl (by kernel_rfl) (by kernel_rfl) (by kernel_rfl) (fun _ _ _ h => h) (Or.inl ⟨by rfl, ?hy99⟩) (by assumption) ?rest99
        case hy99 => (intro wz hSw; (try dsimp only at hSw); first | (go_simp; done) | (go_simp; with_reducible rfl))
        try simp only [Act.put, List.getElem_toArray, List.getElem_cons_succ, List.getElem_cons_zero, List.setIfInBounds_toArray, List.set_cons_zero, List.set_cons_succ]
        refine wpAnyH_take (i := 4) (v := ?v100) rfl (by kernel_rfl) (by kernel_rfl) (by kernel_rfl) (fun _ _ _ h => h) (Or.inl ⟨by rfl, ?hy100⟩) (by assumption) ?rest100
        case hy100 => (intro wz hSw; (try dsimp only at hSw); first | (go_simp; done) | (go_simp; with_reducible rfl))
        try simp only [Act.put, List.getElem_toArray, List.getElem_cons_succ, List.getElem_cons_zero, List.setIfInBounds_toArray, List.set_cons_zero, List.set_cons_succ]
        refine wpAnyH_ready (rs := [1, 5]) (by kernel_rfl) (by simp) ?_
        refine AllReadyH.cons (o := _) rfl (fun K hK => ?_) ?_
        · have e0 := (HS.out.box.keep0 G.out).cell 1
          dsimp at e0
          go_simp
          refine hK.out _ _ (KT.out _ (NF.out.keep0 G.out)) (fun hH1 => ?_)
          clear hK K e0
          try simp only [Act.put, List.getElem_toArray, List.getElem_cons_succ, List.getElem_cons_zero, List.setIfInBounds_toArray, List.set_cons_zero, List.set_cons_succ]
          refine wpAnyH_ready (rs := [5]) (by kernel_rfl) (by simp) ?_
          refine AllReadyH.cons (o := _) rfl (fun K hK => ?_) ?_
          · refine mstep_any rfl _ _ 40 58 iU (.int .u32 0) 4 rfl Try.underlying40 IU.out iU0 iU1 iU2 (by decide) rfl n5 rfl rfl LN5.out ?_
            intro u2 o5 g5
            have R5 := Lib.hid (show NU u2 wq.heap.size (.slice (some ⟨v0.heap.size, 0, none⟩) n5 n5) (List.replicate n5 0) by have k := own_low o5 G.out.size; unfold NU; rw [List.length_replicate, List.map_replicate]; exact k)
            replace G := Lib.hid (gb_trans G.out g5)
            refine hK.out _ _ (KT.out _ (NF.out.keep0 G.out)) (fun hH2 => ?_)
            clear hK K o5 g5
            try simp only [Act.put, List.getElem_toArray, List.getElem_cons_succ, List.getElem_cons_zero, List.setIfInBounds_toArray, List.set_cons_zero, List.set_cons_succ]
            obtain ⟨a5, ha5⟩ : ∃ a : Option Addr, a = some ⟨v0.heap.size, 0, none⟩ := ⟨_, rfl⟩
            obtain ⟨c5, hc5⟩ : ∃ c : Nat, c = n5 := ⟨_, rfl⟩
            have sh5 : Value.slice (some ⟨v0.heap.size, 0, none⟩) n5 n5 = .slice a5 n5 c5 := by rw [ha5, hc5]
            rw [sh5] at R5 ⊢
            clear ha5 hc5 sh5
            refine wpAnyH_ready (rs := [6]) (by kernel_rfl) (by simp) ?_
            refine AllReadyH.cons (o := _) rfl (fun K hK => ?_) ?_
            · go_simp
              have g := gb_alloc u2 (.cells #[.slice a5 n5 c5] 40) none
              have nb := Lib.hid (IsB.new u2 40 #[.slice a5 n5 c5])
              refine hK.out _ _ (KT.out _ (NF.out.keep0 (gb_trans G.out g))) (fun hH3 => ?_)
              clear hK K
              replace G := Lib.hid (gb_trans G.out g)
              replace R5 := Lib.hid (R5.out.keep0 g)
              obtain ⟨b5, hb5⟩ : ∃ b, b = u2.heap.size := ⟨_, rfl⟩
              rw [← hb5] at nb ⊢
              clear g hb5
              generalize u2.alloc (.cells #[.slice a5 n5 c5] 40) = u3 at *
              try simp only [Act.put, List.getElem_toArray, List.getElem_cons_succ, List.getElem_cons_zero, List.setIfInBounds_toArray, List.set_cons_zero, List.set_cons_succ]
              refine wpAnyH_ready (rs := [7]) (by kernel_rfl) (by simp) ?_
              refine AllReadyH.cons (o := _) rfl (fun K hK => ?_) ?_
              · have OUT := Lib.hid (show u3.ownsRow w3.heap.size 40 1 V1 Vs.length Vs by have k := own_keep0 HS.out.rows.out G.out; rw [HS.out.rows.nV]; exact k)
                refine rstep_any rfl _ _ rfl w3.heap.size V1 Vs rfl OUT.out ⟨b5, 0, none⟩ _ (.slice a5 n5 c5) rfl (isb_cell1 nb.out) rfl VL.out (Nat.le_trans HS.out.grown.size G.out.size) ?_
                intro V2 u4 o3 g3
                have NX := Lib.hid (HS.out.next JL.out L6.out G.out HLN.out R5.out RG.out g3 o3)
                have GL := Lib.hid (show w3.grownBy u4 none from gb_lows (gb_trans HS.out.grown G.out) g3 fun q e => (World.ownsRow.lt HS.out.rows.out q e).1)
                have NH2 := Lib.hid (isb_past (NF.out.keep0 G.out) OUT.out (by decide) g3)
                refine hK.out _ _ (KT.out _ NH2.out) (fun hH4 => ?_)
                obtain ⟨r7, hr7⟩ : ∃ r, r = (Vs ++ [Value.slice a5 n5 c5]).length := ⟨_, rfl⟩
                obtain ⟨a7, c7, h7⟩ := own_shape o3
                rw [← hr7] at h7
                subst h7
                clear hK K o3 g3 OUT R5 nb hr7
                try simp only [Act.put, List.getElem_toArray, List.getElem_cons_succ, List.getElem_cons_zero, List.setIfInBounds_toArray, List.set_cons_zero, List.set_cons_succ]
                refine wpAnyH_take (i := 8) (v := ?v101) rfl (by kernel_rfl) (by kernel_rfl) (by kernel_rfl) (fun _ _ _ h => h) (Or.inl ⟨by rfl, ?hy101⟩) (by assumption) ?rest101
                case hy101 => (intro wz hSw; (try dsimp only at hSw); first | (go_simp; done) | (go_simp; with_reducible rfl))
                try simp only [Act.put, List.getElem_toArray, List.getElem_cons_succ, List.getElem_cons_zero, List.setIfInBounds_toArray, List.set_cons_zero, List.set_cons_succ]
                refine wpAnyH_ready (rs := [9]) (by kernel_rfl) (by simp) ?_
                refine AllReadyH.cons (o := _) rfl (fun K hK => ?_) ?_
                · have f0 := NX.out.1.free 1
                  have e1 := NX.out.1.cell 1
                  dsimp at e1
                  go_simp
                  refine hK.out _ _ (KT.out _ (NH2.out.set_far HNE.out 1 _)) (fun hH5 => ?_)
                  clear hK K
                  try simp only [Act.put, List.getElem_toArray, List.getElem_cons_succ, List.getElem_cons_zero, List.setIfInBounds_toArray, List.set_cons_zero, List.set_cons_succ]
                  refine wpAnyH_done (by kernel_rfl) ?_ _
                  go_wp2
                  go_roundw
                  case rel => exact ⟨k + 1, _, _, by omega, by first | rfl | (congr 1), NX.out.2⟩
                  case measure => simp [intOf]; omega
                exact AllReadyH.nil
              exact AllReadyH.nil
            exact AllReadyH.nil
          exact AllReadyH.nil
        refine AllReadyH.cons (o := _) rfl (fun K hK => ?_) ?_
        · refine mstep_any rfl _ _ 40 58 iU (.int .u32 0) 4 rfl Try.underlying40 IU.out iU0 iU1 iU2 (by decide) rfl n5 rfl rfl LN5.out ?_
          intro u6 o5 g5
          have R5 := Lib.hid (show NU u6 wq.heap.size (.slice (some ⟨v0.heap.size, 0, none⟩) n5 n5) (List.replicate n5 0) by have k := own_low o5 G.out.size; unfold NU; rw [List.length_replicate, List.map_replicate]; exact k)
          replace G := Lib.hid (gb_trans G.out g5)
          refine hK.out _ _ (KT.out _ (NF.out.keep0 G.out)) (fun hH6 => ?_)
          clear hK K o5 g5
          try simp only [Act.put, List.getElem_toArray, List.getElem_cons_succ, List.getElem_cons_zero, List.setIfInBounds_toArray, List.set_cons_zero, List.set_cons_succ]
          obtain ⟨a5, ha5⟩ : ∃ a : Option Addr, a = some ⟨v0.heap.size, 0, none⟩ := ⟨_, rfl⟩
          obtain ⟨c5, hc5⟩ : ∃ c : Nat, c = n5 := ⟨_, rfl⟩
          have sh5 : Value.slice (some ⟨v0.heap.size, 0, none⟩) n5 n5 = .slice a5 n5 c5 := by rw [ha5, hc5]
          rw [sh5] at R5 ⊢
          clear ha5 hc5 sh5
          refine wpAnyH_ready (rs := [1, 6]) (by kernel_rfl) (by simp) ?_
          refine AllReadyH.cons (o := _) rfl (fun K hK => ?_) ?_
          · have e0 := (HS.out.box.keep0 G.out).cell 1
            dsimp at e0
            go_simp
            refine hK.out _ _ (KT.out _ (NF.out.keep0 G.out)) (fun hH7 => ?_)
            clear hK K e0
            try simp only [Act.put, List.getElem_toArray, List.getElem_cons_succ, List.getElem_cons_zero, List.setIfInBounds_toArray, List.set_cons_zero, List.set_cons_succ]
            refine wpAnyH_ready (rs := [6]) (by kernel_rfl) (by simp) ?_
            refine AllReadyH.cons (o := _) rfl (fun K hK => ?_) ?_
            · go_simp
              have g := gb_alloc u6 (.cells #[.slice a5 n5 c5] 40) none
              have nb := Lib.hid (IsB.new u6 40 #[.slice a5 n5 c5])
              refine hK.out _ _ (KT.out _ (NF.out.keep0 (gb_trans G.out g))) (fun hH8 => ?_)
              clear hK K
              replace G := Lib.hid (gb_trans G.out g)
              replace R5 := Lib.hid (R5.out.keep0 g)
              obtain ⟨b5, hb5⟩ : ∃ b, b = u6.heap.size := ⟨_, rfl⟩
              rw [← hb5] at nb ⊢
              clear g hb5
              generalize u6.alloc (.cells #[.slice a5 n5 c5] 40) = u8 at *
              try simp only [Act.put, List.getElem_toArray, List.getElem_cons_succ, List.getElem_cons_zero, List.setIfInBounds_toArray, List.set_cons_zero, List.set_cons_succ]
              refine wpAnyH_ready (rs := [7]) (by kernel_rfl) (by simp) ?_
              refine AllReadyH.cons (o := _) rfl (fun K hK => ?_) ?_
              · have OUT := Lib.hid (show u8.ownsRow w3.heap.size 40 1 V1 Vs.length Vs by have k := own_keep0 HS.out.rows.out G.out; rw [HS.out.rows.nV]; exact k)
                refine rstep_any rfl _ _ rfl w3.heap.size V1 Vs rfl OUT.out ⟨b5, 0, none⟩ _ (.slice a5 n5 c5) rfl (isb_cell1 nb.out) rfl VL.out (Nat.le_trans HS.out.grown.size G.out.size) ?_
                intro V2 u9 o3 g3
                have NX := Lib.hid (HS.out.next JL.out L6.out G.out HLN.out R5.out RG.out g3 o3)
                have GL := Lib.hid (show w3.grownBy u9 none from gb_lows (gb_trans HS.out.grown G.out) g3 fun q e => (World.ownsRow.lt HS.out.rows.out q e).1)
                have NH2 := Lib.hid (isb_past (NF.out.keep0 G.out) OUT.out (by decide) g3)
                refine hK.out _ _ (KT.out _ NH2.out) (fun hH9 => ?_)
                obtain ⟨r7, hr7⟩ : ∃ r, r = (Vs ++ [Value.slice a5 n5 c5]).length := ⟨_, rfl⟩
                obtain ⟨a7, c7, h7⟩ := own_shape o3
                rw [← hr7] at h7
                subst h7
                clear hK K o3 g3 OUT R5 nb hr7
                try simp only [Act.put, List.getElem_toArray, List.getElem_cons_succ, List.getElem_cons_zero, List.setIfInBounds_toArray, List.set_cons_zero, List.set_cons_succ]
                refine wpAnyH_take (i := 8) (v := ?v102) rfl (by kernel_rfl) (by kernel_rfl) (by kernel_rfl) (fun _ _ _ h => h) (Or.inl ⟨by rfl, ?hy102⟩) (by assumption) ?rest102
                case hy102 => (intro wz hSw; (try dsimp only at hSw); first | (go_simp; done) | (go_simp; with_reducible rfl))
                try simp only [Act.put, List.getElem_toArray, List.getElem_cons_succ, List.getElem_cons_zero, List.setIfInBounds_toArray, List.set_cons_zero, List.set_cons_succ]
                refine wpAnyH_ready (rs := [9]) (by kernel_rfl) (by simp) ?_
                refine AllReadyH.cons (o := _) rfl (fun K hK => ?_) ?_
                · have f0 := NX.out.1.free 1
                  have e1 := NX.out.1.cell 1
                  dsimp at e1
                  go_simp
                  refine hK.out _ _ (KT.out _ (NH2.out.set_far HNE.out 1 _)) (fun hH10 => ?_)
                  clear hK K
                  try simp only [Act.put, List.getElem_toArray, List.getElem_cons_succ, List.getElem_cons_zero, List.setIfInBounds_toArray, List.set_cons_zero, List.set_cons_succ]
                  refine wpAnyH_done (by kernel_rfl) ?_ _
                  go_wp2
                  go_roundw
                  case rel => exact ⟨k + 1, _, _, by omega, by first | rfl | (congr 1), NX.out.2⟩
                  case measure => simp [intOf]; omega
                exact AllReadyH.nil
              exact AllReadyH.nil
            exact AllReadyH.nil
          refine AllReadyH.cons (o := _) rfl (fun K hK => ?_) ?_
          · go_simp
            have g := gb_alloc u6 (.cells #[.slice a5 n5 c5] 40) none
            have nb := Lib.hid (IsB.new u6 40 #[.slice a5 n5 c5])
            refine hK.out _ _ (KT.out _ (NF.out.keep0 (gb_trans G.out g))) (fun hH11 => ?_)
            clear hK K
            replace G := Lib.hid (gb_trans G.out g)
            replace R5 := Lib.hid (R5.out.keep0 g)
            obtain ⟨b5, hb5⟩ : ∃ b, b = u6.heap.size := ⟨_, rfl⟩
            rw [← hb5] at nb ⊢
            clear g hb5
            generalize u6.alloc (.cells #[.slice a5 n5 c5] 40) = u11 at *
            try simp only [Act.put, List.getElem_toArray, List.getElem_cons_succ, List.getElem_cons_zero, List.setIfInBounds_toArray, List.set_cons_zero, List.set_cons_succ]
            refine wpAnyH_ready (rs := [1]) (by kernel_rfl) (by simp) ?_
            refine AllReadyH.cons (o := _) rfl (fun K hK => ?_) ?_
            · have e0 := (HS.out.box.keep0 G.out).cell 1
              dsimp at e0
              go_simp
              refine hK.out _ _ (KT.out _ (NF.out.keep0 G.out)) (fun hH12 => ?_)
              clear hK K e0
              try simp only [Act.put, List.getElem_toArray, List.getElem_cons_succ, List.getElem_cons_zero, List.setIfInBounds_toArray, List.set_cons_zero, List.set_cons_succ]
              refine wpAnyH_ready (rs := [7]) (by kernel_rfl) (by simp) ?_
              refine AllReadyH.cons (o := _) rfl (fun K hK => ?_) ?_
              · have OUT := Lib.hid (show u11.ownsRow w3.heap.size 40 1 V1 Vs.length Vs by have k := own_keep0 HS.out.rows.out G.out; rw [HS.out.rows.nV]; exact k)
                refine rstep_any rfl _ _ rfl w3.heap.size V1 Vs rfl OUT.out ⟨b5, 0, none⟩ _ (.slice a5 n5 c5) rfl (isb_cell1 nb.out) rfl VL.out (Nat.le_trans HS.out.grown.size G.out.size) ?_
                intro V2 u13 o3 g3
                have NX := Lib.hid (HS.out.next JL.out L6.out G.out HLN.out R5.out RG.out g3 o3)
                have GL := Lib.hid (show w3.grownBy u13 none from gb_lows (gb_trans HS.out.grown G.out) g3 fun q e => (World.ownsRow.lt HS.out.rows.out q e).1)
                have NH2 := Lib.hid (isb_past (NF.out.keep0 G.out) OUT.out (by decide) g3)
                refine hK.out _ _ (KT.out _ NH2.out) (fun hH13 => ?_)
                obtain ⟨r7, hr7⟩ : ∃ r, r = (Vs ++ [Value.slice a5 n5 c5]).length := ⟨_, rfl⟩
                obtain ⟨a7, c7, h7⟩ := own_shape o3
                rw [← hr7] at h7
                subst h7
                clear hK K o3 g3 OUT R5 nb hr7
                try simp only [Act.put, List.getElem_toArray, List.getElem_cons_succ, List.getElem_cons_zero, List.setIfInBounds_toArray, List.set_cons_zero, List.set_cons_succ]
                refine wpAnyH_take (i := 8) (v := ?v103) rfl (by kernel_rfl) (by kernel_rfl) (by kernel_rfl) (fun _ _ _ h => h) (Or.inl ⟨by rfl, ?hy103⟩) (by assumption) ?rest103
                case hy103 => (intro wz hSw; (try dsimp only at hSw); first | (go_simp; done) | (go_simp; with_reducible rfl))
                try simp only [Act.put, List.getElem_toArray, List.getElem_cons_succ, List.getElem_cons_zero, List.setIfInBounds_toArray, List.set_cons_zero, List.set_cons_succ]
                refine wpAnyH_ready (rs := [9]) (by kernel_rfl) (by simp) ?_
                refine AllReadyH.cons (o := _) rfl (fun K hK => ?_) ?_
                · have f0 := NX.out.1.free 1
                  have e1 := NX.out.1.cell 1
                  dsimp at e1
                  go_simp
                  refine hK.out _ _ (KT.out _ (NH2.out.set_far HNE.out 1 _)) (fun hH14 => ?_)
                  clear hK K
                  try simp only [Act.put, List.getElem_toArray, List.getElem_cons_succ, List.getElem_cons_zero, List.setIfInBounds_toArray, List.set_cons_zero, List.set_cons_succ]
                  refine wpAnyH_done (by kernel_rfl) ?_ _
                  go_wp2
                  go_roundw
                  case rel => exact ⟨k + 1, _, _, by omega, by first | rfl | (congr 1), NX.out.2⟩
                  case measure => simp [intOf]; omega
                exact AllReadyH.nil
              exact AllReadyH.nil
            exact AllReadyH.nil
          exact AllReadyH.nil
        exact AllReadyH.nil
      · have i1 : ¬ (k : Int) < hn := by omega
        obtain rfl : k = hn := by omega
        obtain ⟨a1, c1, rfl⟩ := HS0.out.rows.shape
        rw [show ((newE H M).F.take k).length = k by rw [List.length_take, RL.out]; omega] at HS0
        have OE0 := HS0.out.oe G3.out RL.out (by simp) rfl (by simp) rfl (zero_rng mn) (by simp)
        rw [show (⟨List.replicate k false, (newE H M).F, List.replicate mn 0, []⟩ : EL) = newE H M by unfold newE; rw [HL.out, ML.out]] at OE0
        obtain ⟨W', hW', oe, ib⟩ := oe_store OE0 (B2.out.keep0 HS0.out.grown)
        have OEh := Lib.hid oe
        have LBX := Lib.hid (show w.heap.size ≤ bx + 1 from Nat.le_trans Lbx.out (Nat.le_add_right _ _))
        have GW := Lib.hid (show w.grownBy W' none by rw [hW']; exact gb_put (gb_put (gb_put (gb_put (gb_trans G3.out HS0.out.grown) LBX.out) LBX.out) LBX.out) LBX.out)
        have y0 := HS0.out.box.cell 0
        have y1 := HS0.out.box.cell 1
        have y2 := HS0.out.box.cell 2
        have y3 := HS0.out.box.cell 3
        dsimp at y0 y1 y2 y3
        have b4 := B2.out.keep0 HS0.out.grown
        have z0 := b4.cell 0
        have z1 := b4.cell 1
        have z2 := b4.cell 2
        have z3 := b4.cell 3
        dsimp at z0 z1 z2 z3
        have f0 := b4.free 0
        have f1 := b4.free 1
        have f2 := b4.free 2
        have f3 := b4.free 3
        clear oe b4 OE0
        go_wp2
        (try dsimp only at hW')
        try rw [← hW']
        have k0 := ib.cell 0
        have k1 := ib.cell 1
        have k2 := ib.cell 2
        have k3 := ib.cell 3
        dsimp at k0 k1 k2 k3
        refine bodyPost_ret (v := .agg #[.slice a0 k c0, .slice a1 k c1, .slice a2 mn c2, .slice none 0 0]) (by rw [results_cell1 rfl]; go_simp; try rfl) rfl ⟨_, Vs, rfl, OEh.out, GW.out⟩
end Go.Proofs.Ytjhknmklejkknaa
end
