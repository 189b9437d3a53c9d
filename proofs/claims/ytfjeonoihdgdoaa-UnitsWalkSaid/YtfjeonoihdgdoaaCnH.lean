/- Control: the tables of a flow, in order: the program's Tables; no condition but that the tree lies in memory and is not large. -/
import Derived.Test.YtfjeonoihdgdoaaCnD
import Derived.Test.YtfjeonoihdgdoaaExWo
namespace Go.Proofs.Ytfjeonoihdgdoaa
open Go.RowKit Go.Shelf
set_option linter.unusedVariables false
attribute [local go_sem] Oper.semAt_some

def appl (x : CV) : Bool := x.k == 1 || x.k == 3
/-- The tables that nodes apply. -/
def tabL (l : List CV) : List Int := (l.filter appl).map (·.t)
theorem tabL_len (l : List CV) : (tabL l).length ≤ l.length := by unfold tabL; rw [List.length_map]; exact List.length_filter_le _ _
theorem tabL_app (l m : List CV) : tabL (l ++ m) = tabL l ++ tabL m := by unfold tabL; rw [List.filter_append, List.map_append]
theorem tabL_yes (l : List CV) (x : CV) (h : appl x = true) : tabL (l ++ [x]) = tabL l ++ [x.t] := by rw [tabL_app]; unfold tabL; simp [h]
theorem tabL_no (l : List CV) (x : CV) (h : appl x = false) : tabL (l ++ [x]) = tabL l := by rw [tabL_app]; unfold tabL; simp [h]
theorem ipushIn {n : Nat} {l : Nat} {w : World} {ops : Array Oper} {rest : List Oper} {o : Oper} {a : Act} {Q : Exit → Act → World → Prop} (hgd : o.guard = none) (s x : Operand)
    (ho : o.op = .call { callee := .builtin .append, args := #[s, x], argTypes := #[29, 29] }) (base : Nat) (V : Value) (M : List Int) (hs : a.eval s = V) (hown : NL w base V M)
    (ad : Addr) (c : Nat) (y : Int) (hx : a.eval x = .slice (some ad) 1 c) (hT : w.cell? ad = some (.int .i64 y)) (hlen : M.length ≤ 1000000) (hbase : base ≤ w.heap.size)
    (h : ∀ V' w', NL w' base V' (M ++ [y]) → w.grownBy w' V.ownBlock → wpListIn (Fence.wide.inRound l) n Try.prog ops Q rest (a.put o.dst V') w') : wpListIn (Fence.wide.inRound l) n Try.prog ops Q (o :: rest) a w := by
  obtain ⟨i0, hi, hz0, hz1, hz2⟩ := info_parts infoI64
  refine wpListIn_append_own w hgd s x 29 ho base 3 i0 _ 1 8 Try.underlying29 hi hz0 hz1 hz2 rfl (by decide) V M.length (M.map (Value.int .i64)) hs hown ad 1 c [.int .i64 y] hx rfl (fun j u hu => ?_) (by intro u hu; simp at hu; subst hu; rfl) (by unfold maxLen; omega) (by omega) hbase ?_
  · cases j with
    | zero => simp at hu; subst hu; rw [show ad.add 0 = ad by unfold Addr.add; split <;> simp_all]; exact hT
    | succ j => simp at hu
  intro V' w' h1 h2 h3
  refine h V' w' ?_ h2
  unfold NL
  rw [List.map_append, List.length_append]
  simpa using h1
/-- The variable at zl and rows of numbers are turned. -/
def TTb (zl z : Nat) (k : Nat) (t : TypeId) : Prop := k = zl ∨ (t = 3 ∧ z ≤ k)
theorem Kt.of_nl {B base zl z : Nat} {A C : World} {V : Value} {T : List Int} (h : NL A base V T) (hz : z ≤ base) (g : A.grownBy C V.ownBlock) : Kt (KB (TTb zl z) B) A C := by
  cases e : V.ownBlock with
  | none => rw [e] at g; exact Kt.of_gb g
  | some k =>
    rw [e] at g
    rcases h.2 with ⟨rfl, _⟩ | ⟨g1, cap, cur, rfl, hb, hh, _⟩
    · cases e
    · have e1 : g1 = k := by simpa [Value.ownBlock] using e
      subst e1
      exact Kt.of_row g fun o ho => by rw [show A.heap[g1]? = _ from hh] at ho; cases ho; exact .inr ⟨rfl, Nat.le_trans hz hb⟩
/-- The call returns a row of numbers of its own. -/
def RetNL (L : List Int) (w : World) (e : Ending) (w' : World) : Prop := ∃ a c, e = .returned (.slice a L.length c) ∧ NL w' w.heap.size (.slice a L.length c) L ∧ w.grownBy w' none
set_option maxRecDepth 100000 in
set_option maxHeartbeats 8000000 in
theorem ktables_any (w : World) (s : Sl) (T : CT) (hS : ST w s T) (hc : T.cnt ≤ 1000000) : Calls Try.prog 20 #[.slice s.a s.n s.c] w (RetNL (tabL T.pre) w) := by
  have HS := Lib.hid hS
  have HC := Lib.hid hc
  clear hS hc
  refine (callsIn_wide (n := 5)).1 ?_
  refine callsIn_of_wp_marks Try.func20 rfl trivial ?_ rfl
  simp only [Try.ntmps20, List.size_toArray, List.length_cons, List.length_nil, Nat.reduceAdd, Nat.reduceSub, Array.replicate_succ, Array.replicate_zero, List.push_toArray, List.append_toArray, List.nil_append, List.cons_append]
  gi_wp2_with ((first | refine ⟨trivial, wd _, ?_⟩ | refine ⟨trivial, ?_⟩); gi_at_call 49; refine (callsIn_wide.2 (preo_any _ _ _ _)).mono ?_; rintro e w4 ⟨rfl, rfl⟩)
  obtain ⟨w1, hw1⟩ : ∃ w1, w1 = w.alloc (.cells #[.slice none 0 0] 29) := ⟨_, rfl⟩
  obtain ⟨w2, hw2⟩ : ∃ w2, w2 = w1.alloc (.cells #[.slice s.a s.n s.c] 28) := ⟨_, rfl⟩
  have S1 : w1.heap.size = w.heap.size + 1 := by rw [hw1, sz_al]
  have S2 : w2.heap.size = w.heap.size + 1 + 1 := by rw [hw2, sz_al, S1]
  have A1 := IsB.new w 29 #[.slice none 0 0]
  have A2 := IsB.new w1 28 #[.slice s.a s.n s.c]
  rw [S1] at A2
  have G1 := gb_alloc w (.cells #[.slice none 0 0] 29) none
  have G2 := gb_alloc w1 (.cells #[.slice s.a s.n s.c] 28) none
  rw [← hw1] at A1 G1 ⊢
  rw [← hw2] at A2 G2 ⊢
  have L1 := Lib.hid (A1.keep0 G2)
  have L2 := Lib.hid A2
  have GG := Lib.hid (gb_trans G1 G2)
  have SS := Lib.hid S2
  clear hw1 hw2 S1 S2 A1 A2 G1 G2
  obtain ⟨z, hz⟩ : ∃ z, z = w.heap.size := ⟨_, rfl⟩
  have HZ := Lib.hid hz
  rw [← hz] at L1 L2 SS ⊢
  clear hz
  refine wpIn_rangeX rfl (by omega) (gf := 75) (lb := #[.pointer (some ⟨z + 1, 0, none⟩)]) rfl trivial (enters_of Try.func75 (by kernel_rfl) rfl) (encs := enC) (TC := TTb z z) (TI := TZ) (xs := T.pre)
    (fun W2 gW hsz => preo_seq w W2 _ (TTb z z) (fun k t h e => by have := HZ.out; rcases e with e | e <;> omega) (fun k h e => by have := SS.out; rcases e with e | e; (· omega); exact absurd e.1 (by decide)) s T HC.out HS.out (Kc.of_gb (gb_trans GG.out gW)) (z + 1) (L2.out.keep0 gW)) (fun _ => rfl)
    (fun pre w6 => ∃ V, IsB w6 z 29 #[V] ∧ NL w6 z V (tabL pre) ∧ w.grownBy w6 none)
    (fun c pre w6 => False)
    (fun t A C h k => by
      obtain ⟨V, h1, h2, h3⟩ := h
      exact ⟨V, k.isb h1 kiz, k.row h2 (fun _ _ _ => kiz), k.from_ h3 (fun i o hi => kiz_low (by have := SS.out; have := HZ.out; omega) hi)⟩)
    (fun c t A C h k => h)
    ⟨_, L1.out, NL.nil _ _, GG.out⟩ ?round ?done ?stop
  case round =>
    rintro l2 pre x W5 hp ⟨V, v5, r5, g5⟩
    have PC := Lib.hid (show pre.length + 1 ≤ T.cnt by have h := hp.length_le; unfold CT.cnt; simp at h; omega)
    have TL := Lib.hid (tabL_len pre)
    have HX := Lib.hid (rfl : x = x)
    obtain ⟨xk, xt, ⟨ca, cn, cc⟩, N, ⟨ta, tn, tc⟩, th, ⟨ea, en, ec⟩, el⟩ := x
    dsimp only [enC, CV.cs, Sl.v]
    obtain ⟨a5, c5, rfl⟩ := r5.shape
    gi_wp2
    refine ⟨gb_alloc _ _ none, fun W6 k6 kk6 => ?_⟩
    have X6 := Lib.hid (show IsB W6 W5.heap.size 63 #[.int .i64 xk, .int .i64 xt, .slice ca cn cc, .slice ta tn tc, .slice ea en ec] from k6.isb (IsB.new _ _ _) id)
    have V6 := Lib.hid (kk6.isb v5 kiz)
    have R6 := Lib.hid (show NL W6 z (.slice a5 (tabL pre).length c5) (tabL pre) from kk6.row r5 (fun _ _ _ => kiz))
    have G6 := Lib.hid (kk6.from_ g5 (fun i o hi => kiz_low (by have := SS.out; have := HZ.out; omega) hi))
    have x0 := X6.out.cell 0
    have x1 := X6.out.cell 1
    dsimp at x0 x1
    have d6 : W6.cell? ⟨z, 0, none⟩ = some (.slice a5 (tabL pre).length c5) := V6.out.cell 0
    have f6 := V6.out.free 0
    clear v5 r5 g5 k6 kk6 hp
    have O1 := Lib.hid (own_ne R6.out V6.out (by decide))
    have ML := Lib.hid (show (tabL pre).length ≤ 1000000 by have := TL.out; have := PC.out; have := HC.out; omega)
    have SZ := Lib.hid (show z ≤ W6.heap.size by rw [HZ.out]; exact G6.out.size)
    generalize hm : (tabL pre).length = mm at *
    by_cases hap : appl ⟨xk, xt, ⟨ca, cn, cc⟩, N, ⟨ta, tn, tc⟩, th, ⟨ea, en, ec⟩, el⟩ = true
    · have YES := Lib.hid (tabL_yes pre _ hap)
      have MM := Lib.hid hm
      unfold appl at hap
      dsimp only at hap YES
      clear hm
      by_cases h1 : xk = 1
      · subst h1
        clear hap
        gi_wp2_with (gi_at_builtin; refine ipushIn rfl _ _ rfl z _ (tabL pre) rfl (R6.out.keep0 (gb_alloc _ _ none)) ⟨W6.heap.size, 0, none⟩ 1 xt rfl ((IsB.new _ _ _).cell 0) (by rw [MM.out]; exact ML.out) (by rw [sz_al]; exact Nat.le_succ_of_le SZ.out) ?_; intro V7 w7 r7 g7; obtain ⟨a7, c7, rfl⟩ := r7.shape; rw [List.length_append, List.length_singleton] at r7; have R7 := Lib.hid r7; have G7 := Lib.hid g7; have V7b := Lib.hid ((V6.out.alloc (.cells #[.int .i64 xt] 3)).keep g7 (Ne.symm O1.out)); have d7 := V7b.out.free 0; have z7 := V7b.out.cell 0; dsimp at z7; clear r7 g7)
        have KA := (Kt.of_gb (own := KB (TTb z z) w2.heap.size) (gb_alloc W6 (.cells #[.int .i64 xt] 3) none)).trans (Kt.of_nl (R6.out.keep0 (gb_alloc _ _ none)) (Nat.le_refl _) G7.out)
        refine ⟨KA.trans (Kt.of_row (gb_set _ z 0 _) (fun o h => by rw [show w7.heap[z]? = _ from V7b.out] at h; cases h; exact .inl rfl)), _, V7b.out.set 0 _, ?_, ?_⟩
        · rw [YES.out]
          exact World.ownsRow.kept R7.out (gb_set _ _ _ _) (.inr (own_ne R7.out V7b.out (by decide)))
        · refine gb_put (gb_lows (gb_trans G6.out (gb_alloc _ _ none)) G7.out fun g e => ?_) (by rw [HZ.out]; omega)
          rw [← HZ.out]; exact (World.ownsRow.lt R6.out g e).1
      · have h3 : xk = 3 := by simpa [h1] using hap
        subst h3
        clear hap h1
        gi_wp2_with (gi_at_builtin; refine ipushIn rfl _ _ rfl z _ (tabL pre) rfl (R6.out.keep0 (gb_alloc _ _ none)) ⟨W6.heap.size, 0, none⟩ 1 xt rfl ((IsB.new _ _ _).cell 0) (by rw [MM.out]; exact ML.out) (by rw [sz_al]; exact Nat.le_succ_of_le SZ.out) ?_; intro V7 w7 r7 g7; obtain ⟨a7, c7, rfl⟩ := r7.shape; rw [List.length_append, List.length_singleton] at r7; have R7 := Lib.hid r7; have G7 := Lib.hid g7; have V7b := Lib.hid ((V6.out.alloc (.cells #[.int .i64 xt] 3)).keep g7 (Ne.symm O1.out)); have d7 := V7b.out.free 0; have z7 := V7b.out.cell 0; dsimp at z7; clear r7 g7)
        have KA := (Kt.of_gb (own := KB (TTb z z) w2.heap.size) (gb_alloc W6 (.cells #[.int .i64 xt] 3) none)).trans (Kt.of_nl (R6.out.keep0 (gb_alloc _ _ none)) (Nat.le_refl _) G7.out)
        refine ⟨KA.trans (Kt.of_row (gb_set _ z 0 _) (fun o h => by rw [show w7.heap[z]? = _ from V7b.out] at h; cases h; exact .inl rfl)), _, V7b.out.set 0 _, ?_, ?_⟩
        · rw [YES.out]
          exact World.ownsRow.kept R7.out (gb_set _ _ _ _) (.inr (own_ne R7.out V7b.out (by decide)))
        · refine gb_put (gb_lows (gb_trans G6.out (gb_alloc _ _ none)) G7.out fun g e => ?_) (by rw [HZ.out]; omega)
          rw [← HZ.out]; exact (World.ownsRow.lt R6.out g e).1
    · have NO := Lib.hid (tabL_no pre _ (by simpa using hap))
      have MM := Lib.hid hm
      unfold appl at hap
      dsimp only at hap NO
      have h1 : ¬ xk = 1 := fun e => hap (by subst e; rfl)
      have h3 : ¬ xk = 3 := fun e => hap (by subst e; rfl)
      have e1 : (xk == 1) = false := by rw [beq_eq_false_iff_ne]; exact h1
      have e3 : (xk == 3) = false := by rw [beq_eq_false_iff_ne]; exact h3
      have q1 : decide (xk = 1) = false := decide_eq_false h1
      have q3 : decide (xk = 3) = false := decide_eq_false h3
      clear hap hm
      gi_wp2
      refine ⟨Kt.refl _ _, .slice a5 mm c5, V6.out, ?_, G6.out⟩
      rw [NO.out, ← MM.out]
      have r := R6.out
      rw [← MM.out] at r
      exact r
  case done =>
    rintro D w6 hD ⟨V, v5, r5, g5⟩ hK
    obtain ⟨a5, d5, rfl⟩ := r5.shape
    have c5 := v5.cell 0
    dsimp at c5
    gi_wp2
    refine ⟨by simp, .inl ⟨_, _, rfl, run_takeDeferred hK, ?_⟩⟩
    have k : Kt (KI TZ w2.heap.size) w6 (w6.putObj D (.deferred none)) := Kt.put _ fun o h => by rw [hK] at h; cases h; exact ⟨hD, trivial⟩
    refine ⟨_, results_tmp rfl _ _ _, a5, d5, rfl, ?_, k.from_ g5 (fun i o hi => kiz_low (by have := SS.out; have := HZ.out; omega) hi)⟩
    rw [← HZ.out]
    exact k.row r5 (fun _ _ _ => kiz)
  case stop =>
    rintro D c pre w6 hD hp h
    exact h.elim
end Go.Proofs.Ytfjeonoihdgdoaa
