/- The heap's push: the walk. -/
import Derived.Test.YtaikpjnegopelaaDgL
namespace Go.Proofs.Ytaikpjnegopelaa
open Go.RowKit
set_option linter.unusedVariables false

theorem hpush_any {w : World} {ops : Array Oper} {rest : List Oper} {o : Oper} {a : Act} {Q : Exit → Act → World → Prop} (hgd : o.guard = none) (s x : Operand)
    (ho : o.op = .call { callee := .builtin .append, args := #[s, x], argTypes := #[45, 45] }) (base : Nat) (V : Value) (L : List Int) (hs : a.eval s = V) (hown : NL w base V L)
    (ad : Addr) (c : Nat) (y : Int) (hx : a.eval x = .slice (some ad) 1 c) (hM : SlR w (some ad) 1 c ([y].map (Value.int .i64))) (hlen : L.length + 1 ≤ 1000000) (hbase : base ≤ w.heap.size)
    (h : ∀ V' w', NL w' base V' (L ++ [y]) → w.grownBy w' V.ownBlock → (V'.ownBlock = V.ownBlock ∨ V'.ownBlock = some w.heap.size) → wpList Try.prog ops Q rest (a.put o.dst V') w') : wpList Try.prog ops Q (o :: rest) a w := by
  obtain ⟨i0, hi, hz0, hz1, hz2⟩ := info_parts infoI64
  refine wpList_plain hgd fun K hK => ?_
  obtain ⟨V', w', hr, h2, h3, h4⟩ := run_append_own (P := Try.prog) w base 45 o.type 3 i0 (.int .i64 0) 1 8 Try.underlying45 hi hz0 hz1 hz2 rfl (by decide) V L.length (L.map (Value.int .i64)) hown ad 1 c ([y].map (Value.int .i64)) (by simp) (hM.2.2 ad rfl) (ints_one _ _) (by unfold maxLen; omega) (by omega) hbase
  have h2' : NL w' base V' (L ++ [y]) := by unfold NL; simpa using h2
  have hb : V'.ownBlock = V.ownBlock ∨ V'.ownBlock = some w.heap.size := by
    rcases hown.2 with ⟨rfl, hn⟩ | ⟨g, cap, cur, rfl, hbg, hg, hnc, hcm, hcs, htake⟩
    · have hr2 := run_append_nil (P := Try.prog) w 45 o.type 3 i0 (.int .i64 0) Try.underlying45 hi hz0 ad 1 c ([y].map (Value.int .i64)) (by rw [hz1]; simp) (hM.2.2 ad rfl) (by omega) (by omega) (by rw [hz2]; omega)
      rw [hr] at hr2
      injection hr2 with e1 e2
      right; rw [e1]; rfl
    · by_cases hroom : L.length + 1 ≤ cap
      · have hr2 := run_append_room (P := Try.prog) w 45 o.type 3 i0 Try.underlying45 hi g L.length cap cur hg ad 1 c ([y].map (Value.int .i64)) (by rw [hz1]; simp) (hM.2.2 ad rfl) (ints_one _ _) hroom (by rw [hz1, hcs]; simp; omega)
        rw [hr] at hr2
        injection hr2 with e1 e2
        left; rw [e1]; rfl
      · have holds : ∀ j u, (L.map (Value.int .i64))[j]? = some u → w.cell? ((⟨g, 0, none⟩ : Addr).add j) = some u := World.ownsRow.cells hown (g := g) rfl
        have hr2 := run_append_grow (P := Try.prog) w 45 o.type 3 i0 (.int .i64 0) Try.underlying45 hi hz0 ⟨g, 0, none⟩ L.length cap (L.map (Value.int .i64)) (by rw [hz1]; simp) holds ad 1 c ([y].map (Value.int .i64)) (by rw [hz1]; simp) (hM.2.2 ad rfl) (by omega) (by omega) (growslice_fits (by omega) (by rw [hz2]; omega))
        rw [hr] at hr2
        injection hr2 with e1 e2
        right; rw [e1]; rfl
  unfold Oper.wp execOp
  simp only [ho, resolve, invoke, builtin, Sem.run_bind, Sem.run_pure, Result.andThen_ok, List.map_toArray, List.map_cons, List.map_nil, hs, hx, hr]
  exact hK _ _ (h V' w' h2' h3 hb)
def upF : Nat → Nat → List Int → List Int
  | 0, _, H => H
  | f + 1, i, H => if 0 < i ∧ H.getD i 0 < H.getD ((i - 1) / 2) 0 then upF f ((i - 1) / 2) (swapL H i ((i - 1) / 2)) else H
def pushL (H : List Int) (v : Int) : List Int := upF (H.length + 1) H.length (H ++ [v])
set_option maxRecDepth 100000 in
set_option maxHeartbeats 2000000 in
theorem push_heap (W w : World) (hb base : Nat) (V : Value) (H : List Int) (v : Int) (h : HQ W hb base V H w) (hn : H.length ≤ 99999) (hbase : base ≤ w.heap.size) :
    Calls Try.prog 39 #[.pointer (some ⟨hb, 0, none⟩), .int .i64 v] w fun e w' => e = .returned (.tuple #[]) ∧ ∃ V', HQ W hb base V' (pushL H v) w' ∧ (V'.ownBlock = V.ownBlock ∨ ∃ q, V'.ownBlock = some q ∧ w.heap.size ≤ q) ∧ Fr w w' hb V.ownBlock := by
  have HH := Lib.hid h
  obtain ⟨ha, hc, rfl⟩ := h.row.shape
  have cv : w.cell? ⟨hb, 0, none⟩ = some (.slice ha H.length hc) := h.var.cell 0
  have fv := h.var.free 0
  have hbl := h.var.lt
  have HLB := Lib.hid hbl
  have lv := h.lowv
  have lr := h.lowr
  have A1 := Lib.hid (gb_alloc w (.cells #[.int .i64 v] 3) none)
  clear h
  go_enter Try.func39, Try.ntmps39
  go_wp2_with (at_builtin; refine hpush_any rfl _ _ rfl base _ H rfl (HH.out.row.keep0 A1.out) _ _ v rfl (slr_one _ _ _ _ _ rfl) (by omega) (Nat.le_trans hbase A1.out.size) ?_)
  intro V1 w1 o1 g1 n1
  have F1 := Lib.hid (((Fr.refl w hb _).step A1.out (by intro q e; cases e)).step g1 (by intro q e; exact .inr (.inl e)))
  have hA1s := A1.out.size
  have V1k := Lib.hid ((HH.out.var.keep0 A1.out).keep g1 (by
    intro e
    obtain ⟨b0, c0, hh⟩ : ∃ b0 c0, Value.slice ha H.length hc = .slice (some ⟨b0, 0, none⟩) H.length c0 := by
      rcases HH.out.row.2 with ⟨hn1, _⟩ | ⟨g0, cap, cur, h1, _⟩
      · rw [hn1] at e; cases e
      · exact ⟨_, _, h1⟩
    have hrow := HH.out.row
    rw [hh] at hrow e
    obtain ⟨cs, hbk⟩ := own_blk hrow
    injection e with e
    exact IsB.ne HH.out.var hbk (by decide) e))
  have G1 := Lib.hid (gb_own (gb_trans HH.out.grown A1.out) (HH.out.row.keep0 A1.out) lr g1)
  have O1 := Lib.hid o1
  have hlen1 : (H ++ [v]).length = H.length + 1 := by simp
  obtain ⟨b, c, hV⟩ := o1.headn hlen1.symm (by omega)
  subst hV
  have fv1 := V1k.out.free 0
  have cv1 : w1.cell? ⟨hb, 0, none⟩ = some (.slice ha H.length hc) := V1k.out.cell 0
  have hbk0 : ∃ cs, IsB w1 b 3 cs := by
    unfold NL at o1
    rw [hlen1] at o1
    exact own_blk o1
  obtain ⟨cs, hbk⟩ := hbk0
  have hne : hb ≠ b := IsB.ne V1k.out hbk (by decide)
  have hne2 : b ≠ hb := fun e => hne e.symm
  have hlowb : base ≤ b := (World.ownsRow.lt o1 b rfl).1
  have N0 := Lib.hid (show NL (w1.setCell ⟨hb, 0, none⟩ (.slice (some ⟨b, 0, none⟩) (H.length + 1) c)) base (.slice (some ⟨b, 0, none⟩) (H.length + 1) c) (H ++ [v]) by
    have h0 := o1
    unfold NL at h0 ⊢
    exact World.ownsRow.kept h0 (gb_set _ _ _ _) (Or.inr (by intro e; injection e with e; exact hne2 e)))
  have B0 := Lib.hid (show IsB (w1.setCell ⟨hb, 0, none⟩ (.slice (some ⟨b, 0, none⟩) (H.length + 1) c)) hb 45 #[.slice (some ⟨b, 0, none⟩) (H.length + 1) c] from V1k.out.set 0 _)
  have G0 := Lib.hid (show W.grownBy (w1.setCell ⟨hb, 0, none⟩ (.slice (some ⟨b, 0, none⟩) (H.length + 1) c)) none from gb_put G1.out lv)
  have hsub : ((H.length + 1 : Nat) : Int) - 1 = (H.length : Int) := by omega
  have hsub2 : (H.length : Int) + 1 - 1 = (H.length : Int) := by omega
  have hown : (∃ q, some b = some q ∧ (Value.slice ha H.length hc).ownBlock = some q) ∨ w.heap.size ≤ b := by
    rcases n1 with e | e
    · left; exact ⟨b, rfl, e.symm⟩
    · right
      have e2 : b = _ := Option.some.inj e
      omega
  have NB := Lib.hid (show ((Value.slice (some ⟨b, 0, none⟩) (H.length + 1) c).ownBlock = (Value.slice ha H.length hc).ownBlock ∨ ∃ q, (Value.slice (some ⟨b, 0, none⟩) (H.length + 1) c).ownBlock = some q ∧ w.heap.size ≤ q) by
    rcases n1 with e | e
    · exact .inl e
    · right
      have e2 : b = _ := Option.some.inj e
      exact ⟨b, rfl, by omega⟩)
  have F2 := Lib.hid (F1.out.step (gb_set w1 hb 0 (.slice (some ⟨b, 0, none⟩) (H.length + 1) c)) (by intro q e; injection e with e; exact .inl e.symm))
  have HOW := Lib.hid hown
  clear o1 g1 hbk n1 hA1s hown
  go_wp2
  go_loopw [5] (fun k wr => ∃ (i f : Nat) (L : List Int), k = .int .i64 i ∧ i ≤ H.length ∧ i < f ∧ H.length + 1 = L.length ∧ upF f i L = pushL H v ∧ NL wr base (.slice (some ⟨b, 0, none⟩) (H.length + 1) c) L ∧ (w1.setCell ⟨hb, 0, none⟩ (.slice (some ⟨b, 0, none⟩) (H.length + 1) c)).grownBy wr (some b)) (fun k _ => (intOf k).toNat)
  case atStart => exact ⟨H.length, H.length + 1, H ++ [v], rfl, Nat.le_refl _, Nat.lt_succ_self _, hlen1.symm, rfl, N0.out, gb_refl _ _⟩
  case round =>
    obtain ⟨i, f, L, rfl, hin, hf, hlen, hs, hnl, hg⟩ := hrel
    have HN := Lib.hid hnl
    have HG := Lib.hid hg
    have HS := Lib.hid hs
    have HLN := Lib.hid hlen
    obtain ⟨n, hn2⟩ : ∃ n, n = H.length + 1 := ⟨_, rfl⟩
    have hnb : n ≤ 100000 := by omega
    have hin2 : i < n := by omega
    have hnI : (H.length : Int) + 1 = (n : Int) := by omega
    have iin : (i : Int) < n := by omega
    have END : ∀ wr', upF f i L = L → wr.grownBy wr' none → HQ W hb base (.slice (some ⟨b, 0, none⟩) (H.length + 1) c) (pushL H v) wr' ∧ Fr w wr' hb (Value.slice ha H.length hc).ownBlock := by
      intro wr' he g
      have g5 := gb_trans HG.out (gb_any g)
      refine ⟨⟨B0.out.keep g5 (by intro e; injection e with e; exact hne e), ?_, gb_new (gb_trans (gb_any G0.out) g5) (Nat.le_trans lr hlowb), lv, lr⟩, F2.out.step g5 (by
        intro q e
        injection e with e
        subst e
        rcases HOW.out with ⟨q, e1, e2⟩ | e1
        · injection e1 with e1; subst e1; exact .inr (.inl e2)
        · exact .inr (.inr e1))⟩
      rw [← HS.out, he]
      exact HN.out.keep0 g
    have HEND := Lib.hid END
    clear hnl hg hs hlen END
    by_cases hi0 : 0 < i
    · obtain ⟨k, hk⟩ : ∃ k : Nat, i = k + 1 := ⟨i - 1, by omega⟩
      obtain ⟨q, hq⟩ : ∃ q : Nat, q = k / 2 := ⟨_, rfl⟩
      have h1 : (i : Int) - 1 = (k : Int) := by omega
      have h2 : (k : Int) / 2 = (q : Int) := by omega
      have h3 : Int.tdiv (k : Int) 2 = (q : Int) := by rw [Int.tdiv_eq_ediv_of_nonneg (by omega)]; exact h2
      have hkb : k ≤ 100000 := by omega
      have hqb : q ≤ 100000 := by omega
      have hqn : q < n := by omega
      have iqn : (q : Int) < n := by omega
      have hqi : q < i := by omega
      have iin1 : (i : Int) < (H.length : Int) + 1 := by omega
      have iqn1 : (q : Int) < (H.length : Int) + 1 := by omega
      have ipos : (0 : Int) < i := by omega
      have ci := HN.out.at_ HLN.out i (by have := HLN.out; omega)
      have cq := HN.out.at_ HLN.out q (by have := HLN.out; omega)
      have STEP := Lib.hid (show upF f i L = if L.getD i 0 < L.getD q 0 then upF (f - 1) q (swapL L i q) else L by
        obtain ⟨f', rfl⟩ : ∃ f', f = f' + 1 := ⟨f - 1, by omega⟩
        have e : (i - 1) / 2 = q := by omega
        show (if _ then _ else _) = _
        rw [e]
        simp only [hi0, true_and]
        rfl)
      obtain ⟨x, hx⟩ : ∃ x, x = L.getD i 0 := ⟨_, rfl⟩
      obtain ⟨y, hy⟩ : ∃ y, y = L.getD q 0 := ⟨_, rfl⟩
      rw [← hx] at ci STEP
      rw [← hy] at cq STEP
      clear hx hy hk hq hn2 hnI iin iqn hsub hsub2
      by_cases hxy : x < y
      · have ST := Lib.hid STEP.out
        rw [if_pos hxy] at ST
        go_wp2
        go_quiet (fail)
        go_wp2_with fail
        refine (swap_any _ base b (H.length + 1) c L i q (HN.out.keep0 (gb_drewN _ _ _)) HLN.out (by omega) (by omega) (by omega)).mono ?_
        rintro e w4 ⟨rfl, o4, g4⟩
        have O4 := Lib.hid o4
        have G4 := Lib.hid (gb_trans (gb_trans HG.out (gb_drewN _ _ _)) g4)
        clear o4 g4
        go_wp2
        go_roundw
        case rel => exact ⟨q, f - 1, _, rfl, by omega, by omega, by rw [swapL_len]; exact HLN.out, ST.out.symm.trans HS.out, O4.out, G4.out⟩
        case measure => simp [intOf]; omega
      · have FIN := Lib.hid (show upF f i L = L by rw [STEP.out, if_neg hxy])
        go_wp2
        go_quiet (fail)
        go_wp2
        go_end0
        exact ⟨rfl, _, (HEND.out _ FIN.out (gb_drewN _ _ _)).1, NB.out, (HEND.out _ FIN.out (gb_drewN _ _ _)).2⟩
    · have iz : i = 0 := by omega
      subst iz
      have FIN := Lib.hid (show upF f 0 L = L by cases f with
        | zero => rfl
        | succ f => show (if _ then _ else _) = _; simp)
      go_wp2
      go_quiet (fail)
      go_wp2
      go_end0
      exact ⟨rfl, _, (HEND.out _ FIN.out (gb_drewN _ _ _)).1, NB.out, (HEND.out _ FIN.out (gb_drewN _ _ _)).2⟩
end Go.Proofs.Ytaikpjnegopelaa
