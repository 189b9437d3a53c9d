/- Several texts in one: EvR, EvS. -/
import Derived.Test.YtjhknmklejkknaaGxE
section
namespace Go.Proofs.Ytjhknmklejkknaa
open Go.RowKit
set_option linter.unusedVariables false
/-- A row of numbers read, appended to an empty row of the call's own. -/
theorem ustep_any {ops : Array Oper} {o : Oper} {a : Act} {w : World} {K : Act → World → Prop} {Q : Exit → Act → World → Prop} {Z : Prop} (hgd : o.guard = none) (s x : Operand)
    (ho : o.op = .call { callee := .builtin .append, args := #[s, x], argTypes := #[40, 40] }) (base : Nat) (V : Value) (hs : a.eval s = V) (hown : NU w base V [])
    (ad : Option Addr) (m c : Nat) (M : List Int) (hx : a.eval x = .slice ad m c) (hM : SU w ad m c M) (hlen : m ≤ 100000) (hbase : base ≤ w.heap.size)
    (h : ∀ V' w', NU w' base V' M → w.grownBy w' V.ownBlock → K (a.put o.dst V') w') : if Region.wanted o (yielded ops a.tmps) = true then Oper.wp Try.prog o a w K Q else Z := by
  have hw : Region.wanted o (yielded ops a.tmps) = true := by simp [Region.wanted, hgd]
  rw [if_pos hw]
  obtain ⟨i0, hi, hz0, hz1, hz2⟩ := info_parts infoU32
  cases ad with
  | none =>
    obtain ⟨rfl, rfl⟩ := hM.nil rfl
    have hm : M = [] := List.length_eq_zero_iff.1 hM.len
    subst hm
    have hrun := run_append_owned_none (P := Try.prog) (w := w) base 40 o.type 58 i0 1 Try.underlying40 hi V _ _ hown
    unfold Oper.wp
    simp [execOp, ho, resolve, invoke, builtin, hs, hx, hrun, Result.andThen]
    refine h V w hown ?_
    cases V.ownBlock <;> exact gb_refl _ _
  | some ad =>
    have sl := hM.slr
    refine wp_append_own w s x 40 ho base 58 i0 (.int .u32 0) 1 4 Try.underlying40 hi hz0 hz1 hz2 rfl (by decide) V _ _ hs hown ad m c (M.map (Value.int .u32)) hx (by simp [hM.len]) (sl.2.2 ad rfl) (by intro u hu; obtain ⟨y, _, rfl⟩ := List.mem_map.1 hu; rfl) (by simp only [List.length_nil]; unfold maxLen; omega) (by simp only [List.length_nil]; omega) hbase ?_
    intro V' w' h1 h2 h3
    refine h V' w' ?_ h2
    unfold NU
    rw [hM.len]
    simpa using h1
theorem BS.put2 {w w3 w1 : World} {b6 j : Nat} {s0 s3 V1 V3 : Value} {V : List Bool} {Rows : List (List Int)} {T P : List Int} {Vs : List Value} {wr : World}
    (h : BS w w3 b6 s0 (.slice none 0 0) s3 V Rows [] P j V1 Vs wr) (hw : w.grownBy w3 none) (hj : j ≤ Rows.length) (l6 : w3.heap.size ≤ b6) (k : wr.grownBy w1 none) (o : NU w1 wr.heap.size V3 T) :
    BS w w3 b6 s0 V3 s3 V Rows T P j V1 Vs (w1.setCell ⟨b6, 2, none⟩ V3) := by
  have h' := h.keep0 k
  have bx := h'.box
  have kp : ∀ {e : TypeId} {base : Nat} {v : Value} {n : Nat} {xs : List Value}, w1.ownsRow base e 1 v n xs → e ≠ 42 → World.ownsRow (w1.setCell ⟨b6, 2, none⟩ V3) base e 1 v n xs := fun h hn => own_keepS h (gb_set _ _ _ _) bx hn
  refine ⟨bx.set 2 V3, ⟨kp h'.rows.out (by decide), fun x hx => kp (h'.rows.own x hx) (by decide), h'.rows.dis, h'.rows.rng⟩, kp h'.r1 (by decide), kp (own_low o (Nat.le_trans hw.size h.grown.size)) (by decide), kp h'.r3 (by decide), ?_, gb_put h'.grown l6⟩
  intro x hx q e e3
  have l1 := (World.ownsRow.lt o q e3).1
  have l2 := (World.ownsRow.lt (h.rows.own x (by rw [List.length_take]; omega)) q e).2
  omega
theorem BS.put3 {w w3 w1 : World} {b6 j : Nat} {s0 s2 V1 V3 : Value} {V : List Bool} {Rows : List (List Int)} {T P : List Int} {Vs : List Value} {wr : World}
    (h : BS w w3 b6 s0 s2 (.slice none 0 0) V Rows T [] j V1 Vs wr) (hw : w.grownBy w3 none) (l6 : w3.heap.size ≤ b6) (k : wr.grownBy w1 none) (o : NY w1 wr.heap.size V3 P) :
    BS w w3 b6 s0 s2 V3 V Rows T P j V1 Vs (w1.setCell ⟨b6, 3, none⟩ V3) := by
  have h' := h.keep0 k
  have bx := h'.box
  have kp : ∀ {e : TypeId} {base : Nat} {v : Value} {n : Nat} {xs : List Value}, w1.ownsRow base e 1 v n xs → e ≠ 42 → World.ownsRow (w1.setCell ⟨b6, 3, none⟩ V3) base e 1 v n xs := fun h hn => own_keepS h (gb_set _ _ _ _) bx hn
  exact ⟨bx.set 3 V3, ⟨kp h'.rows.out (by decide), fun x hx => kp (h'.rows.own x hx) (by decide), h'.rows.dis, h'.rows.rng⟩, kp h'.r1 (by decide), kp h'.r2 (by decide), kp (own_low o (Nat.le_trans hw.size h.grown.size)) (by decide), h'.dis, gb_put h'.grown l6⟩
theorem clone_start {w w3 w1 : World} {V1 : Value} {V : List Bool} {Rows : List (List Int)} (hw : w.grownBy w3 none) (i6 : IsB w1 w3.heap.size 42 #[.slice none 0 0, .slice none 0 0, .slice none 0 0, .slice none 0 0]) (k : w3.grownBy w1 none) (o : NB w1 w.heap.size V1 V) :
    BS w w3 w3.heap.size V1 (.slice none 0 0) (.slice none 0 0) V Rows [] [] 0 (.slice none 0 0) [] (w1.setCell ⟨w3.heap.size, 0, none⟩ V1) := by
  have kp : ∀ {e : TypeId} {base : Nat} {v : Value} {n : Nat} {xs : List Value}, w1.ownsRow base e 1 v n xs → e ≠ 42 → World.ownsRow (w1.setCell ⟨w3.heap.size, 0, none⟩ V1) base e 1 v n xs := fun h hn => own_keepS h (gb_set _ _ _ _) i6 hn
  exact ⟨i6.set 0 V1, by rw [List.take_zero]; exact or_nil _ _, kp o (by decide), World.ownsRow_nil _ _ _ _, World.ownsRow_nil _ _ _ _, (by intro x hx; omega), gb_put k (Nat.le_refl _)⟩
end Go.Proofs.Ytjhknmklejkknaa
end
section
namespace Go.Proofs.Ytjhknmklejkknaa
open Go.RowKit
set_option linter.unusedVariables false
theorem mlist_any {ops : Array Oper} {o : Oper} {rest : List Oper} {a : Act} {w : World} {Q : Exit → Act → World → Prop} (hgd : o.guard = none) (l c : Operand) (t e : TypeId) (i0 : TypeInfo) (z : Value) (by_ : Nat)
    (hop : o.op = Op.makeSlice t l c) (ht : Try.prog.underlying t = some (.slice e)) (hi : Try.prog.info? e = some i0) (hz0 : i0.zero = some z) (hz1 : i0.size = 1) (hz2 : i0.bytes = by_) (hb : by_ ≤ 4) (hzc : z.cells = #[z]) (n : Nat) (hl : a.eval l = .int .i64 n) (hc : a.eval c = .int .i64 n) (hn : n ≤ 100000)
    (h : ∀ w', w'.ownsRow w.heap.size e 1 (.slice (some ⟨w.heap.size, 0, none⟩) n n) n (List.replicate n z) → w.grownBy w' none → wpList Try.prog ops Q rest (a.put o.dst (.slice (some ⟨w.heap.size, 0, none⟩) n n)) w') : wpList Try.prog ops Q (o :: rest) a w := by
  refine wpList_make_full w hgd l c t hop w.heap.size e i0 z 1 ht hi hz0 hz1 .i64 .i64 n n n hl hc rfl rfl (by rw [hz2]; have : by_ * n ≤ 4 * 100000 := Nat.mul_le_mul hb hn; omega) (by unfold maxLen; omega) (Nat.le_refl _) ?_
  intro w' r1 r2
  refine h w' ?_ r2
  rw [hzc, Nat.mul_one, made_zero] at r1
  exact r1
set_option maxRecDepth 100000 in
set_option maxHeartbeats 8000000 in
theorem rnew_any (w : World) (nm v3 v4 v5 v6 v7 v8 : Value) (ha ma : Option Addr) (hn hc mn mc : Nat) (H : List (ByteArray × List Fld)) (M : List Fld) (hH : SH w ha hn hc H) (hM : SF w ma mn mc M) (hb : hn ≤ 100000) (mb : mn ≤ 100000) (fb : ∀ j, (H.getD j hz).2.length ≤ 100000) :
    Calls Try.prog 23 #[.agg #[nm, .slice ha hn hc, .slice ma mn mc, v3, v4, v5, v6, v7, v8]] w (RetE (newE H M) w) := by
  have HH := Lib.hid hH
  have HL := Lib.hid hH.len
  have ML := Lib.hid hM.len
  have FB := Lib.hid fb
  have LH := Lib.hid hb
  have LM := Lib.hid mb
  obtain ⟨iU, iu, iU0, iU1, iU2⟩ := info_parts infoU32
  have IU := Lib.hid iu
  clear iu
  obtain ⟨iB, ib, iB0, iB1, iB2⟩ := info_parts infoBool
  have IB := Lib.hid ib
  clear ib
  have G3 := Lib.hid (gb_trans (gb_alloc w (.cells #[nm, .slice ha hn hc, .slice ma mn mc, v3, v4, v5, v6, v7, v8] 31) none) (gb_alloc _ (.cells #[.slice none 0 0, .slice none 0 0, .slice none 0 0, .slice none 0 0] 42) none))
  have B1 := (IsB.new w 31 #[nm, .slice ha hn hc, .slice ma mn mc, v3, v4, v5, v6, v7, v8]).alloc (.cells #[.slice none 0 0, .slice none 0 0, .slice none 0 0, .slice none 0 0] 42)
  have B2 := IsB.new (w.alloc (.cells #[nm, .slice ha hn hc, .slice ma mn mc, v3, v4, v5, v6, v7, v8] 31)) 42 #[.slice none 0 0, .slice none 0 0, .slice none 0 0, .slice none 0 0]
  simp only [sz_al] at B2
  replace B1 := Lib.hid B1
  replace B2 := Lib.hid B2
  clear hH hM hb mb fb
  go_enter Try.func23, Try.ntmps23
  go_upto_region 1 with fail
  generalize (w.alloc (.cells #[nm, .slice ha hn hc, .slice ma mn mc, v3, v4, v5, v6, v7, v8] 31)).alloc (.cells #[.slice none 0 0, .slice none 0 0, .slice none 0 0, .slice none 0 0] 42) = w3 at *
  obtain ⟨bx, hbx⟩ : ∃ b, b = w.heap.size := ⟨_, rfl⟩
  have Lbx := Lib.hid (show w.heap.size ≤ bx by rw [hbx]; exact Nat.le_refl _)
  rw [← hbx] at B1 B2 ⊢
  clear hbx
  have I6 := Lib.hid (IsB.new w3 42 #[.slice none 0 0, .slice none 0 0, .slice none 0 0, .slice none 0 0])
  have GA := Lib.hid (gb_alloc w3 (.cells #[.slice none 0 0, .slice none 0 0, .slice none 0 0, .slice none 0 0] 42) none)
  go_upto_region 2 with fail
  generalize w3.alloc (.cells #[.slice none 0 0, .slice none 0 0, .slice none 0 0, .slice none 0 0] 42) = w4 at *
  have x1 := (B1.out.keep0 GA.out).cell 1
  dsimp at x1
  go_wp2_with (at_make; refine mlist_any rfl _ _ 38 4 iB (.bool false) 1 rfl Try.underlying38 IB.out iB0 iB1 iB2 (by decide) rfl hn rfl rfl LH.out ?_; intro w5 o5 g5; have f0 := (I6.out.keep0 g5).free 0; have y0 := (I6.out.keep0 g5).cell 0; dsimp at y0; have O0 := Lib.hid (show NB w5 w.heap.size (.slice (some ⟨w4.heap.size, 0, none⟩) hn hn) (List.replicate hn false) by have k := own_low o5 (Nat.le_trans G3.out.size GA.out.size); unfold NB; rw [List.length_replicate, List.map_replicate]; exact k); have G5 := Lib.hid (show w4.grownBy w5 none from g5); clear o5 g5; generalize w4.heap.size = b4 at *)
  have S0 := Lib.hid (clone_start (Rows := (newE H M).F) G3.out (I6.out.keep0 G5.out) (gb_trans GA.out G5.out) O0.out)
  obtain ⟨b6, hb6⟩ : ∃ b, b = w3.heap.size := ⟨_, rfl⟩
  have L6 := Lib.hid (show w3.heap.size ≤ b6 by rw [hb6]; exact Nat.le_refl _)
  rw [← hb6] at S0 ⊢
  clear f0 y0 x1 I6 GA G5 O0 hb6
  generalize w5.setCell ⟨b6, 0, none⟩ (.slice (some ⟨b4, 0, none⟩) hn hn) = w6 at *
  go_loopw [4] (fun i wr => ∃ (k : Nat) (V1 : Value) (Vs : List Value), k ≤ hn ∧ i = .int .i64 k ∧ BS w w3 b6 (.slice (some ⟨b4, 0, none⟩) hn hn) (.slice none 0 0) (.slice none 0 0) (List.replicate hn false) (newE H M).F [] [] k V1 Vs wr) (fun i _ => hn - (intOf i).toNat)
  case atStart => exact ⟨0, _, _, Nat.zero_le _, rfl, S0.out⟩
  case round =>
    obtain ⟨k, V1, Vs, hk, rfl, hs⟩ := hrel
    have HS := Lib.hid hs
    clear hs S0
    have RL := Lib.hid (show (newE H M).F.length = hn by rw [← HL.out]; simp [newE])
    have x1 := (B1.out.keep0 HS.out.grown).cell 1
    dsimp at x1
    by_cases hlt : k < hn
    · have i1 : (k : Int) < hn := by omega
      have i0 : (0 : Int) ≤ (k : Int) := by omega
      have hw : IntKind.i64.wrap ((k : Int) + 1) = ((k + 1 : Nat) : Int) := by have := LH.out; rw [IntKind.wrap_i64]; omega
      obtain ⟨hd, rfl⟩ := HH.out.some (by omega)
      obtain ⟨d0, fa, n5, fc, d1, sf⟩ := (HH.out.keep0 G3.out).cells hd rfl k hlt
      have LN5 := Lib.hid (show n5 ≤ 100000 by rw [← sf.len]; exact FB.out k)
      have HLN := Lib.hid (show List.replicate n5 0 = (newE H M).F.getD k [] by rw [newE_row H M k (by rw [HL.out]; exact hlt), sf.len])
      have RG := Lib.hid (zero_rng n5)
      have VL := Lib.hid (show Vs.length + 1 ≤ 1000000 by have h1 := HS.out.rows.nV; rw [List.length_take, RL.out] at h1; have := LH.out; omega)
      have JL := Lib.hid (show k < (newE H M).F.length by rw [RL.out]; exact hlt)
      have KT := Lib.hid (fun (w' : World) (q : w3.grownBy w' none) => (⟨(B1.out.keep0 q).cell 1, q.cell d1 (by simp)⟩ : (fun w' : World => w'.cell? ⟨bx, 1, none⟩ = some (.slice (some hd) hn hc) ∧ w'.cell? ⟨(hd.add (k * 2)).block, (hd.add (k * 2)).off + 1, none⟩ = some (.slice fa n5 fc)) w'))
      clear sf d0 d1
      go_upto_region 6 with fail
      clear x1
      have G := Lib.hid (gb_drew wr none)
      refine wp_region_held_drew (S := (fun w' : World => w'.cell? ⟨bx, 1, none⟩ = some (.slice (some hd) hn hc) ∧ w'.cell? ⟨(hd.add (k * 2)).block, (hd.add (k * 2)).off + 1, none⟩ = some (.slice fa n5 fc))) (by kernel_rfl) (KT.out _ (gb_trans HS.out.grown G.out)) (fun hH0 => ?_)
      generalize wr.drew = v0 at *
      refine wpAnyH_take (i := 0) (v := ?v249) rfl (by kernel_rfl) (by kernel_rfl) (by kernel_rfl) (fun _ _ _ h => h) (Or.inl ⟨by rfl, ?hy249⟩) (by assumption) ?rest249
      case hy249 => (intro wz hSw; (try dsimp only at hSw); first | (go_simp; done) | (go_simp; with_reducible rfl))
      try simp only [Act.put, List.getElem_toArray, List.getElem_cons_zero, List.setIfInBounds_toArray, List.set_cons_zero, List.set_cons_succ]
      refine wpAnyH_take (i := 2) (v := ?v250) rfl (by kernel_rfl) (by kernel_rfl) (by kernel_rfl) (fun _ _ _ h => h) (Or.inl ⟨by rfl, ?hy250⟩) (by assumption) ?rest250
      case hy250 => (intro wz hSw; (try dsimp only at hSw); first | (go_simp; done) | (go_simp; with_reducible rfl))
      try simp only [Act.put, List.getElem_toArray, List.getElem_cons_succ, List.getElem_cons_zero, List.setIfInBounds_toArray, List.set_cons_zero, List.set_cons_succ]
      refine wpAnyH_take (i := 3) (v := ?v251) rfl (by kernel_rfl) (by kernel_rfl) (by kernel_rfl) (fun _ _ _ h => h) (Or.inl ⟨by rfl, ?hy251⟩) (by assumption) ?rest251
      case hy251 => (intro wz hSw; (try dsimp only at hSw); first | (go_simp; done) | (go_simp; with_reducible rfl))
      try simp only [Act.put, List.getElem_toArray, List.getElem_cons_succ, List.getElem_cons_zero, List.setIfInBounds_toArray, List.set_cons_zero, List.set_cons_succ]
      refine wpAnyH_take (i := 4) (v := ?v252) rfl (by kernel_rfl) (by kernel_rfl) (by kernel_rfl) (fun _ _ _ h => h) (Or.inl ⟨by rfl, ?hy252⟩) (by assumption) ?rest252
      case hy252 => (intro wz hSw; (try dsimp only at hSw); first | (go_simp; done) | (go_simp; with_reducible rfl))
      try simp only [Act.put, List.getElem_toArray, List.getElem_cons_succ, List.getElem_cons_zero, List.setIfInBounds_toArray, List.set_cons_zero, List.set_cons_succ]
      refine wpAnyH_take (i := 5) (v := ?v253) rfl (by kernel_rfl) (by kernel_rfl) (by kernel_rfl) (fun _ _ _ h => h) (Or.inl ⟨by rfl, ?hy253⟩) (by assumption) ?rest253
      case hy253 => (intro wz hSw; (try dsimp only at hSw); first | (go_simp; done) | (go_simp; with_reducible rfl))
      try simp only [Act.put, List.getElem_toArray, List.getElem_cons_succ, List.getElem_cons_zero, List.setIfInBounds_toArray, List.set_cons_zero, List.set_cons_succ]
      refine wpAnyH_take (i := 6) (v := ?v254) rfl (by kernel_rfl) (by kernel_rfl) (by kernel_rfl) (fun _ _ _ h => h) (Or.inl ⟨by rfl, ?hy254⟩) (by assumption) ?rest254
      case hy254 => (intro wz hSw; (try dsimp only at hSw); first | (go_simp; done) | (go_simp; with_reducible rfl))
      try simp only [Act.put, List.getElem_toArray, List.getElem_cons_succ, List.getElem_cons_zero, List.setIfInBounds_toArray, List.set_cons_zero, List.set_cons_succ]
      refine wpAnyH_take (i := 7) (v := ?v255) rfl (by kernel_rfl) (by kernel_rfl) (by kernel_rfl) (fun _ _ _ h => h) (Or.inl ⟨by rfl, ?hy255⟩) (by assumption) ?rest255
      case hy255 => (intro wz hSw; (try dsimp only at hSw); first | (go_simp; done) | (go_simp; with_reducible rfl))
      try simp only [Act.put, List.getElem_toArray, List.getElem_cons_succ, List.getElem_cons_zero, List.setIfInBounds_toArray, List.set_cons_zero, List.set_cons_succ]
      refine wpAnyH_take (i := 8) (v := ?v256) rfl (by kernel_rfl) (by kernel_rfl) (by kernel_rfl) (fun _ _ _ h => h) (Or.inl ⟨by rfl, ?hy256⟩) (by assumption) ?rest256
      case hy256 => (intro wz hSw; (try dsimp only at hSw); first | (go_simp; done) | (go_simp; with_reducible rfl))
      try simp only [Act.put, List.getElem_toArray, List.getElem_cons_succ, List.getElem_cons_zero, List.setIfInBounds_toArray, List.set_cons_zero, List.set_cons_succ]
      refine wpAnyH_ready (rs := [1, 9]) (by kernel_rfl) (by simp) ?_
      refine AllReadyH.cons (o := _) rfl (fun K hK => ?_) ?_
      · have e0 := (HS.out.box.keep0 G.out).cell 1
        dsimp at e0
        go_simp
        refine hK.out _ _ (KT.out _ (gb_trans HS.out.grown G.out)) (fun hH1 => ?_)
        clear hK K e0
        try simp only [Act.put, List.getElem_toArray, List.getElem_cons_succ, List.getElem_cons_zero, List.setIfInBounds_toArray, List.set_cons_zero, List.set_cons_succ]
        refine wpAnyH_ready (rs := [9]) (by kernel_rfl) (by simp) ?_
        refine AllReadyH.cons (o := _) rfl (fun K hK => ?_) ?_
        · refine mstep_any rfl _ _ 40 58 iU (.int .u32 0) 4 rfl Try.underlying40 IU.out iU0 iU1 iU2 (by decide) rfl n5 rfl rfl LN5.out ?_
          intro u2 o5 g5
          have R5 := Lib.hid (show NU u2 wr.heap.size (.slice (some ⟨v0.heap.size, 0, none⟩) n5 n5) (List.replicate n5 0) by have k := own_low o5 G.out.size; unfold NU; rw [List.length_replicate, List.map_replicate]; exact k)
          replace G := Lib.hid (gb_trans G.out g5)
          refine hK.out _ _ (KT.out _ (gb_trans HS.out.grown G.out)) (fun hH2 => ?_)
          clear hK K o5 g5
          try simp only [Act.put, List.getElem_toArray, List.getElem_cons_succ, List.getElem_cons_zero, List.setIfInBounds_toArray, List.set_cons_zero, List.set_cons_succ]
          obtain ⟨a5, ha5⟩ : ∃ a : Option Addr, a = some ⟨v0.heap.size, 0, none⟩ := ⟨_, rfl⟩
          obtain ⟨c5, hc5⟩ : ∃ c : Nat, c = n5 := ⟨_, rfl⟩
          have sh5 : Value.slice (some ⟨v0.heap.size, 0, none⟩) n5 n5 = .slice a5 n5 c5 := by rw [ha5, hc5]
          rw [sh5] at R5 ⊢
          clear ha5 hc5 sh5
          refine wpAnyH_ready (rs := [10]) (by kernel_rfl) (by simp) ?_
          refine AllReadyH.cons (o := _) rfl (fun K hK => ?_) ?_
          · go_simp
            have g := gb_alloc u2 (.cells #[.slice a5 n5 c5] 40) none
            have nb := Lib.hid (IsB.new u2 40 #[.slice a5 n5 c5])
            refine hK.out _ _ (KT.out _ (gb_trans HS.out.grown (gb_trans G.out g))) (fun hH3 => ?_)
            clear hK K
            replace G := Lib.hid (gb_trans G.out g)
            replace R5 := Lib.hid (R5.out.keep0 g)
            obtain ⟨b5, hb5⟩ : ∃ b, b = u2.heap.size := ⟨_, rfl⟩
            rw [← hb5] at nb ⊢
            clear g hb5
            generalize u2.alloc (.cells #[.slice a5 n5 c5] 40) = u3 at *
            try simp only [Act.put, List.getElem_toArray, List.getElem_cons_succ, List.getElem_cons_zero, List.setIfInBounds_toArray, List.set_cons_zero, List.set_cons_succ]
            refine wpAnyH_ready (rs := [11]) (by kernel_rfl) (by simp) ?_
            refine AllReadyH.cons (o := _) rfl (fun K hK => ?_) ?_
            · have OUT := Lib.hid (show u3.ownsRow w3.heap.size 40 1 V1 Vs.length Vs by have k := own_keep0 HS.out.rows.out G.out; rw [HS.out.rows.nV]; exact k)
              refine rstep_any rfl _ _ rfl w3.heap.size V1 Vs rfl OUT.out ⟨b5, 0, none⟩ _ (.slice a5 n5 c5) rfl (isb_cell1 nb.out) rfl VL.out (Nat.le_trans HS.out.grown.size G.out.size) ?_
              intro V2 u4 o3 g3
              have NX := Lib.hid (HS.out.next JL.out L6.out G.out HLN.out R5.out RG.out g3 o3)
              have GL := Lib.hid (show w3.grownBy u4 none from gb_lows (gb_trans HS.out.grown G.out) g3 fun q e => (World.ownsRow.lt HS.out.rows.out q e).1)
              refine hK.out _ _ (KT.out _ GL.out) (fun hH4 => ?_)
              obtain ⟨r7, hr7⟩ : ∃ r, r = (Vs ++ [Value.slice a5 n5 c5]).length := ⟨_, rfl⟩
              obtain ⟨a7, c7, h7⟩ := own_shape o3
              rw [← hr7] at h7
              subst h7
              clear hK K o3 g3 OUT R5 nb hr7
              try simp only [Act.put, List.getElem_toArray, List.getElem_cons_succ, List.getElem_cons_zero, List.setIfInBounds_toArray, List.set_cons_zero, List.set_cons_succ]
              refine wpAnyH_take (i := 12) (v := ?v257) rfl (by kernel_rfl) (by kernel_rfl) (by kernel_rfl) (fun _ _ _ h => h) (Or.inl ⟨by rfl, ?hy257⟩) (by assumption) ?rest257
              case hy257 => (intro wz hSw; (try dsimp only at hSw); first | (go_simp; done) | (go_simp; with_reducible rfl))
              try simp only [Act.put, List.getElem_toArray, List.getElem_cons_succ, List.getElem_cons_zero, List.setIfInBounds_toArray, List.set_cons_zero, List.set_cons_succ]
              refine wpAnyH_ready (rs := [13]) (by kernel_rfl) (by simp) ?_
              refine AllReadyH.cons (o := _) rfl (fun K hK => ?_) ?_
              · have f0 := NX.out.1.free 1
                have e1 := NX.out.1.cell 1
                dsimp at e1
                go_simp
                refine hK.out _ _ (KT.out _ (gb_put GL.out L6.out)) (fun hH5 => ?_)
                clear hK K
                try simp only [Act.put, List.getElem_toArray, List.getElem_cons_succ, List.getElem_cons_zero, List.setIfInBounds_toArray, List.set_cons_zero, List.set_cons_succ]
                refine wpAnyH_done (by kernel_rfl) ?_ _
                go_wp2
                go_roundw
                case rel => exact ⟨k + 1, _, _, by omega, by first | rfl | (congr 1), NX.out.2⟩
                case measure => simp [intOf]; omega
              exact AllReadyH.nil
            exact AllReadyH.nil
          exact AllReadyH.nil
        exact AllReadyH.nil
      refine AllReadyH.cons (o := _) rfl (fun K hK => ?_) ?_
      · refine mstep_any rfl _ _ 40 58 iU (.int .u32 0) 4 rfl Try.underlying40 IU.out iU0 iU1 iU2 (by decide) rfl n5 rfl rfl LN5.out ?_
        intro u6 o5 g5
        have R5 := Lib.hid (show NU u6 wr.heap.size (.slice (some ⟨v0.heap.size, 0, none⟩) n5 n5) (List.replicate n5 0) by have k := own_low o5 G.out.size; unfold NU; rw [List.length_replicate, List.map_replicate]; exact k)
        replace G := Lib.hid (gb_trans G.out g5)
        refine hK.out _ _ (KT.out _ (gb_trans HS.out.grown G.out)) (fun hH6 => ?_)
        clear hK K o5 g5
        try simp only [Act.put, List.getElem_toArray, List.getElem_cons_succ, List.getElem_cons_zero, List.setIfInBounds_toArray, List.set_cons_zero, List.set_cons_succ]
        obtain ⟨a5, ha5⟩ : ∃ a : Option Addr, a = some ⟨v0.heap.size, 0, none⟩ := ⟨_, rfl⟩
        obtain ⟨c5, hc5⟩ : ∃ c : Nat, c = n5 := ⟨_, rfl⟩
        have sh5 : Value.slice (some ⟨v0.heap.size, 0, none⟩) n5 n5 = .slice a5 n5 c5 := by rw [ha5, hc5]
        rw [sh5] at R5 ⊢
        clear ha5 hc5 sh5
        refine wpAnyH_ready (rs := [1, 10]) (by kernel_rfl) (by simp) ?_
        refine AllReadyH.cons (o := _) rfl (fun K hK => ?_) ?_
        · have e0 := (HS.out.box.keep0 G.out).cell 1
          dsimp at e0
          go_simp
          refine hK.out _ _ (KT.out _ (gb_trans HS.out.grown G.out)) (fun hH7 => ?_)
          clear hK K e0
          try simp only [Act.put, List.getElem_toArray, List.getElem_cons_succ, List.getElem_cons_zero, List.setIfInBounds_toArray, List.set_cons_zero, List.set_cons_succ]
          refine wpAnyH_ready (rs := [10]) (by kernel_rfl) (by simp) ?_
          refine AllReadyH.cons (o := _) rfl (fun K hK => ?_) ?_
          · go_simp
            have g := gb_alloc u6 (.cells #[.slice a5 n5 c5] 40) none
            have nb := Lib.hid (IsB.new u6 40 #[.slice a5 n5 c5])
            refine hK.out _ _ (KT.out _ (gb_trans HS.out.grown (gb_trans G.out g))) (fun hH8 => ?_)
            clear hK K
            replace G := Lib.hid (gb_trans G.out g)
            replace R5 := Lib.hid (R5.out.keep0 g)
            obtain ⟨b5, hb5⟩ : ∃ b, b = u6.heap.size := ⟨_, rfl⟩
            rw [← hb5] at nb ⊢
            clear g hb5
            generalize u6.alloc (.cells #[.slice a5 n5 c5] 40) = u8 at *
            try simp only [Act.put, List.getElem_toArray, List.getElem_cons_succ, List.getElem_cons_zero, List.setIfInBounds_toArray, List.set_cons_zero, List.set_cons_succ]
            refine wpAnyH_ready (rs := [11]) (by kernel_rfl) (by simp) ?_
            refine AllReadyH.cons (o := _) rfl (fun K hK => ?_) ?_
            · have OUT := Lib.hid (show u8.ownsRow w3.heap.size 40 1 V1 Vs.length Vs by have k := own_keep0 HS.out.rows.out G.out; rw [HS.out.rows.nV]; exact k)
              refine rstep_any rfl _ _ rfl w3.heap.size V1 Vs rfl OUT.out ⟨b5, 0, none⟩ _ (.slice a5 n5 c5) rfl (isb_cell1 nb.out) rfl VL.out (Nat.le_trans HS.out.grown.size G.out.size) ?_
              intro V2 u9 o3 g3
              have NX := Lib.hid (HS.out.next JL.out L6.out G.out HLN.out R5.out RG.out g3 o3)
              have GL := Lib.hid (show w3.grownBy u9 none from gb_lows (gb_trans HS.out.grown G.out) g3 fun q e => (World.ownsRow.lt HS.out.rows.out q e).1)
              refine hK.out _ _ (KT.out _ GL.out) (fun hH9 => ?_)
              obtain ⟨r7, hr7⟩ : ∃ r, r = (Vs ++ [Value.slice a5 n5 c5]).length := ⟨_, rfl⟩
              obtain ⟨a7, c7, h7⟩ := own_shape o3
              rw [← hr7] at h7
              subst h7
              clear hK K o3 g3 OUT R5 nb hr7
              try simp only [Act.put, List.getElem_toArray, List.getElem_cons_succ, List.getElem_cons_zero, List.setIfInBounds_toArray, List.set_cons_zero, List.set_cons_succ]
              refine wpAnyH_take (i := 12) (v := ?v258) rfl (by kernel_rfl) (by kernel_rfl) (by kernel_rfl) (fun _ _ _ h => h) (Or.inl ⟨by rfl, ?hy258⟩) (by assumption) ?rest258
              case hy258 => (intro wz hSw; (try dsimp only at hSw); first | (go_simp; done) | (go_simp; with_reducible rfl))
              try simp only [Act.put, List.getElem_toArray, List.getElem_cons_succ, List.getElem_cons_zero, List.setIfInBounds_toArray, List.set_cons_zero, List.set_cons_succ]
              refine wpAnyH_ready (rs := [13]) (by kernel_rfl) (by simp) ?_
              refine AllReadyH.cons (o := _) rfl (fun K hK => ?_) ?_
              · have f0 := NX.out.1.free 1
                have e1 := NX.out.1.cell 1
                dsimp at e1
                go_simp
                refine hK.out _ _ (KT.out _ (gb_put GL.out L6.out)) (fun hH10 => ?_)
                clear hK K
                try simp only [Act.put, List.getElem_toArray, List.getElem_cons_succ, List.getElem_cons_zero, List.setIfInBounds_toArray, List.set_cons_zero, List.set_cons_succ]
                refine wpAnyH_done (by kernel_rfl) ?_ _
                go_wp2
                go_roundw
                case rel => exact ⟨k + 1, _, _, by omega, by first | rfl | (congr 1), NX.out.2⟩
                case measure => simp [intOf]; omega
              exact AllReadyH.nil
            exact AllReadyH.nil
          exact AllReadyH.nil
        refine AllReadyH.cons (o := _) rfl (fun K hK => ?_) ?_
        · go_simp
          have g := gb_alloc u6 (.cells #[.slice a5 n5 c5] 40) none
          have nb := Lib.hid (IsB.new u6 40 #[.slice a5 n5 c5])
          refine hK.out _ _ (KT.out _ (gb_trans HS.out.grown (gb_trans G.out g))) (fun hH11 => ?_)
          clear hK K
          replace G := Lib.hid (gb_trans G.out g)
          replace R5 := Lib.hid (R5.out.keep0 g)
          obtain ⟨b5, hb5⟩ : ∃ b, b = u6.heap.size := ⟨_, rfl⟩
          rw [← hb5] at nb ⊢
          clear g hb5
          generalize u6.alloc (.cells #[.slice a5 n5 c5] 40) = u11 at *
          try simp only [Act.put, List.getElem_toArray, List.getElem_cons_succ, List.getElem_cons_zero, List.setIfInBounds_toArray, List.set_cons_zero, List.set_cons_succ]
          refine wpAnyH_ready (rs := [1]) (by kernel_rfl) (by simp) ?_
          refine AllReadyH.cons (o := _) rfl (fun K hK => ?_) ?_
          · have e0 := (HS.out.box.keep0 G.out).cell 1
            dsimp at e0
            go_simp
            refine hK.out _ _ (KT.out _ (gb_trans HS.out.grown G.out)) (fun hH12 => ?_)
            clear hK K e0
            try simp only [Act.put, List.getElem_toArray, List.getElem_cons_succ, List.getElem_cons_zero, List.setIfInBounds_toArray, List.set_cons_zero, List.set_cons_succ]
            refine wpAnyH_ready (rs := [11]) (by kernel_rfl) (by simp) ?_
            refine AllReadyH.cons (o := _) rfl (fun K hK => ?_) ?_
            · have OUT := Lib.hid (show u11.ownsRow w3.heap.size 40 1 V1 Vs.length Vs by have k := own_keep0 HS.out.rows.out G.out; rw [HS.out.rows.nV]; exact k)
              refine rstep_any rfl _ _ rfl w3.heap.size V1 Vs rfl OUT.out ⟨b5, 0, none⟩ _ (.slice a5 n5 c5) rfl (isb_cell1 nb.out) rfl VL.out (Nat.le_trans HS.out.grown.size G.out.size) ?_
              intro V2 u13 o3 g3
              have NX := Lib.hid (HS.out.next JL.out L6.out G.out HLN.out R5.out RG.out g3 o3)
              have GL := Lib.hid (show w3.grownBy u13 none from gb_lows (gb_trans HS.out.grown G.out) g3 fun q e => (World.ownsRow.lt HS.out.rows.out q e).1)
              refine hK.out _ _ (KT.out _ GL.out) (fun hH13 => ?_)
              obtain ⟨r7, hr7⟩ : ∃ r, r = (Vs ++ [Value.slice a5 n5 c5]).length := ⟨_, rfl⟩
              obtain ⟨a7, c7, h7⟩ := own_shape o3
              rw [← hr7] at h7
              subst h7
              clear hK K o3 g3 OUT R5 nb hr7
              try simp only [Act.put, List.getElem_toArray, List.getElem_cons_succ, List.getElem_cons_zero, List.setIfInBounds_toArray, List.set_cons_zero, List.set_cons_succ]
              refine wpAnyH_take (i := 12) (v := ?v259) rfl (by kernel_rfl) (by kernel_rfl) (by kernel_rfl) (fun _ _ _ h => h) (Or.inl ⟨by rfl, ?hy259⟩) (by assumption) ?rest259
              case hy259 => (intro wz hSw; (try dsimp only at hSw); first | (go_simp; done) | (go_simp; with_reducible rfl))
              try simp only [Act.put, List.getElem_toArray, List.getElem_cons_succ, List.getElem_cons_zero, List.setIfInBounds_toArray, List.set_cons_zero, List.set_cons_succ]
              refine wpAnyH_ready (rs := [13]) (by kernel_rfl) (by simp) ?_
              refine AllReadyH.cons (o := _) rfl (fun K hK => ?_) ?_
              · have f0 := NX.out.1.free 1
                have e1 := NX.out.1.cell 1
                dsimp at e1
                go_simp
                refine hK.out _ _ (KT.out _ (gb_put GL.out L6.out)) (fun hH14 => ?_)
                clear hK K
                try simp only [Act.put, List.getElem_toArray, List.getElem_cons_succ, List.getElem_cons_zero, List.setIfInBounds_toArray, List.set_cons_zero, List.set_cons_succ]
                refine wpAnyH_done (by kernel_rfl) ?_ _
                go_wp2
                go_roundw
                case rel => exact ⟨k + 1, _, _, by omega, by first | rfl | (congr 1), NX.out.2⟩
                case measure => simp [intOf]; omega
              exact AllReadyH.nil
            exact AllReadyH.nil
          exact AllReadyH.nil
        exact AllReadyH.nil
      exact AllReadyH.nil
    · have i1 : ¬ (k : Int) < hn := by omega
      obtain rfl : hn = k := by omega
      go_upto_region 7 with fail
      clear x1
      go_cut [4] from 30 to 34 (fun s4 wx => ∃ (a2 : Option Addr) (c2 : Nat), BS w w3 b6 (.slice (some ⟨b4, 0, none⟩) hn hn) (.slice a2 mn c2) (.slice none 0 0) (List.replicate hn false) (newE H M).F (List.replicate mn 0) [] hn V1 Vs wx)
      case first =>
        have x2 := (B1.out.keep0 HS.out.grown).cell 2
        dsimp at x2
        go_wp2_with (at_make; refine mlist_any rfl _ _ 40 58 iU (.int .u32 0) 4 rfl Try.underlying40 IU.out iU0 iU1 iU2 (by decide) rfl mn rfl rfl LM.out ?_; intro w7 o7 g7; have f2 := (HS.out.box.keep0 g7).free 2; have y2 := (HS.out.box.keep0 g7).cell 2; dsimp at y2; have G7 := Lib.hid (show wr.grownBy w7 none from g7); have O7 := Lib.hid (show NU w7 wr.heap.size (.slice (some ⟨wr.heap.size, 0, none⟩) mn mn) (List.replicate mn 0) by unfold NU; rw [List.length_replicate, List.map_replicate]; exact o7); clear o7 g7)
        go_meet
        exact ⟨_, _, HS.out.put2 G3.out (by rw [RL.out]; exact Nat.le_refl _) L6.out G7.out O7.out⟩
      case rest =>
      obtain ⟨a2, c2, bs⟩ := hcut
      have HS0 := Lib.hid bs
      clear bs HS
      generalize wc = wf at *
      go_upto_region 8 with fail
      obtain ⟨a1, c1, rfl⟩ := HS0.out.rows.shape
      rw [show ((newE H M).F.take hn).length = hn by rw [List.length_take, RL.out]; omega] at HS0
      have OE0 := HS0.out.oe G3.out RL.out (by simp) rfl (by simp) rfl (zero_rng mn) (by simp)
      rw [show (⟨List.replicate hn false, (newE H M).F, List.replicate mn 0, []⟩ : EL) = newE H M by unfold newE; rw [HL.out, ML.out]] at OE0
      obtain ⟨W', hW', oe, ib⟩ := oe_store OE0 (B2.out.keep0 HS0.out.grown)
      have OEh := Lib.hid oe
      have LBX := Lib.hid (show w.heap.size ≤ bx + 1 from Nat.le_trans Lbx.out (Nat.le_add_right _ _))
      have GW := Lib.hid (show w.grownBy W' none by rw [hW']; exact gb_put (gb_put (gb_put (gb_put (gb_trans G3.out HS0.out.grown) LBX.out) LBX.out) LBX.out) LBX.out)
      have y0 := HS0.out.box.cell 0
      have y1 := HS0.out.box.cell 1
      have y2 := HS0.out.box.cell 2
      have y3 := HS0.out.box.cell 3
      dsimp at y0 y1 y2 y3
      have b4x := B2.out.keep0 HS0.out.grown
      have z0 := b4x.cell 0
      have z1 := b4x.cell 1
      have z2 := b4x.cell 2
      have z3 := b4x.cell 3
      dsimp at z0 z1 z2 z3
      have f0 := b4x.free 0
      have f1 := b4x.free 1
      have f2 := b4x.free 2
      have f3 := b4x.free 3
      clear oe b4x OE0
      go_wp2
      (try dsimp only at hW')
      try rw [← hW']
      have k0 := ib.cell 0
      have k1 := ib.cell 1
      have k2 := ib.cell 2
      have k3 := ib.cell 3
      dsimp at k0 k1 k2 k3
      refine bodyPost_ret (v := .agg #[.slice (some ⟨b4, 0, none⟩) hn hn, .slice a1 hn c1, .slice a2 mn c2, .slice none 0 0]) (by rw [results_cell1 rfl]; go_simp; try rfl) rfl ⟨_, Vs, rfl, OEh.out, GW.out⟩
end Go.Proofs.Ytjhknmklejkknaa
end
