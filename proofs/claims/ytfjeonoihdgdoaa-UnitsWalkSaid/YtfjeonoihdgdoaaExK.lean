/- Expr: the fields and headers of short lists; equal lists; no condition but the lengths. -/
import Derived.Test.YtfjeonoihdgdoaaExJ
import Derived.Lib.BitFns
import Derived.Lib.Walk
namespace Go.Proofs.Ytfjeonoihdgdoaa
open Go.RowKit
set_option linter.unusedVariables false
theorem tab8 (i : Nat) (h : i < Lib.len8tab.size) : ((Lib.len8tab[i].toNat : Nat) : Int) = (Lib.bitLen i : Int) := by
  have hs := Lib.len8tab_size
  have q := Lib.len8_of (i : Int) (by omega) (by omega)
  unfold Lib.len8 at q
  rw [Int.toNat_natCast, ByteArray.getElem?_lt' _ _ h, Option.getD_some] at q
  exact q
set_option maxRecDepth 100000 in
set_option maxHeartbeats 1000000 in
theorem len_0 (w : World) (x : Int) (h0 : 0 ≤ x) (h1 : x < 256) : Calls Try.prog 116 #[.int .u64 x] w (RetS (.int .i64 (Lib.bitLen x.toNat)) w) := by
  have c1 : ¬ (4294967296 : Int) ≤ x := by omega
  have c2 : ¬ (65536 : Int) ≤ x := by omega
  have c3 : ¬ (256 : Int) ≤ x := by omega
  obtain ⟨hz0, hz1⟩ : 0 ≤ x ∧ x < (Lib.len8tab.size : Int) := by rw [Lib.len8tab_size]; omega
  have L := Lib.hid (Lib.bitLen_le (x.toNat) 8 (by omega) (by omega))
  go_enter Try.func116, Try.ntmps116
  go_wp2
  go_ret
  refine ⟨ret_i ?_, rfl⟩
  have l := L.out
  rw [tab8]
  generalize Lib.bitLen (x.toNat) = u at *
  first | omega | (rw [IntWalk.wrap64_in (u : Int) (by omega), IntWalk.wrap64_in _ (by omega)]; try omega)
set_option maxRecDepth 100000 in
theorem blen_any (w : World) (x : Int) (h0 : 0 ≤ x) (h1 : x < 256) : Calls Try.prog 91 #[.int .u64 x] w (RetS (.int .i64 (Lib.bitLen x.toNat)) w) := by
  have L := Lib.hid (fun w => len_0 w x h0 h1)
  have ew : IntKind.u64.wrap x = x := by rw [IntKind.wrap_u64]; omega
  go_enter Try.func91, Try.ntmps91
  go_wp2_with fail
  refine (L.out _).mono ?_
  rintro e w1 ⟨rfl, rfl⟩
  go_wp2
  go_ret
  exact ⟨rfl, rfl⟩
set_option maxRecDepth 100000 in
theorem insF_any (w : World) (V F : Value) (n : Nat) (hn : n ≤ 1) : Calls Try.prog 107 #[V, .int .i64 0, .int .i64 (n : Int), F] w (RetS (.tuple #[]) w) := by
  have i1 : ¬ (1 : Int) < (n : Int) := by omega
  go_enter Try.func107, Try.ntmps107
  go_wp2
  go_loopw [8] (fun s8 wr => s8 = .int .i64 1 ∧ wr = w) (fun _ _ => 0)
  case atStart => exact ⟨rfl, rfl⟩
  case round =>
    obtain ⟨rfl, rfl⟩ := hrel
    go_wp2
    go_end0
    exact ⟨rfl, rfl⟩
set_option maxRecDepth 100000 in
theorem insI_any (w : World) (V : Value) (n : Nat) (hn : n ≤ 1) : Calls Try.prog 118 #[V, .int .i64 0, .int .i64 (n : Int)] w (RetS (.tuple #[]) w) := by
  have i1 : ¬ (1 : Int) < (n : Int) := by omega
  go_enter Try.func118, Try.ntmps118
  go_wp2
  go_loopw [6] (fun s8 wr => s8 = .int .i64 1 ∧ wr = w) (fun _ _ => 0)
  case atStart => exact ⟨rfl, rfl⟩
  case round =>
    obtain ⟨rfl, rfl⟩ := hrel
    go_wp2
    go_end0
    exact ⟨rfl, rfl⟩
set_option maxRecDepth 100000 in
theorem pdqF_any (w : World) (V F : Value) (n : Nat) (l : Int) (hn : n ≤ 1) : Calls Try.prog 90 #[V, .int .i64 0, .int .i64 (n : Int), .int .i64 l, F] w (RetS (.tuple #[]) w) := by
  have i1 : (n : Int) ≤ 12 := by omega
  have IN := Lib.hid (fun w => insF_any w V F n hn)
  unfold RetS at IN
  go_enter Try.func90, Try.ntmps90
  go_wp2
  go_loopw [1, 2] (fun s1 s2 wr => s1 = .int .i64 0 ∧ s2 = .int .i64 (n : Int) ∧ wr = w) (fun _ _ _ => 0)
  case atStart => exact ⟨rfl, rfl, rfl⟩
  case round =>
    obtain ⟨rfl, rfl, rfl⟩ := hrel
    go_wp2_with fail
    refine (IN.out _).mono ?_
    rintro e w1 ⟨rfl, rfl⟩
    go_wp2
    go_end0
    exact ⟨rfl, rfl⟩
set_option maxRecDepth 100000 in
theorem pdqI_any (w : World) (V : Value) (n : Nat) (l : Int) (hn : n ≤ 1) : Calls Try.prog 94 #[V, .int .i64 0, .int .i64 (n : Int), .int .i64 l] w (RetS (.tuple #[]) w) := by
  have i1 : (n : Int) ≤ 12 := by omega
  have IN := Lib.hid (fun w => insI_any w V n hn)
  unfold RetS at IN
  go_enter Try.func94, Try.ntmps94
  go_wp2
  go_loopw [1, 2] (fun s1 s2 wr => s1 = .int .i64 0 ∧ s2 = .int .i64 (n : Int) ∧ wr = w) (fun _ _ _ => 0)
  case atStart => exact ⟨rfl, rfl, rfl⟩
  case round =>
    obtain ⟨rfl, rfl, rfl⟩ := hrel
    go_wp2_with fail
    refine (IN.out _).mono ?_
    rintro e w1 ⟨rfl, rfl⟩
    go_wp2
    go_end0
    exact ⟨rfl, rfl⟩
set_option maxRecDepth 100000 in
theorem sortF_any (w : World) (a : Option Addr) (n c : Nat) (F : Value) (hn : n ≤ 1) : Calls Try.prog 68 #[.slice a n c, F] w (RetS (.tuple #[]) w) := by
  have ew : IntKind.u64.wrap (n : Int) = (n : Int) := by rw [IntKind.wrap_u64]; omega
  have BL := Lib.hid (fun w => blen_any w (n : Int) (by omega) (by omega))
  have PQ := Lib.hid (fun w l => pdqF_any w (.slice a n c) F n l hn)
  unfold RetS at BL PQ
  go_enter Try.func68, Try.ntmps68
  go_wp2_with fail
  refine (BL.out _).mono ?_
  rintro e w1 ⟨rfl, rfl⟩
  go_wp2_with fail
  refine (PQ.out _ _).mono ?_
  rintro e w2 ⟨rfl, rfl⟩
  go_wp2
  go_end0
  exact ⟨rfl, rfl⟩
set_option maxRecDepth 100000 in
theorem sortI_any (w : World) (a : Option Addr) (n c : Nat) (hn : n ≤ 1) : Calls Try.prog 71 #[.slice a n c] w (RetS (.tuple #[]) w) := by
  have ew : IntKind.u64.wrap (n : Int) = (n : Int) := by rw [IntKind.wrap_u64]; omega
  have BL := Lib.hid (fun w => blen_any w (n : Int) (by omega) (by omega))
  have PQ := Lib.hid (fun w l => pdqI_any w (.slice a n c) n l hn)
  unfold RetS at BL PQ
  go_enter Try.func71, Try.ntmps71
  go_wp2_with fail
  refine (BL.out _).mono ?_
  rintro e w1 ⟨rfl, rfl⟩
  go_wp2_with fail
  refine (PQ.out _ _).mono ?_
  rintro e w2 ⟨rfl, rfl⟩
  go_wp2
  go_end0
  exact ⟨rfl, rfl⟩
set_option maxRecDepth 100000 in
theorem compF_any (w : World) (a : Option Addr) (n c : Nat) (hn : n ≤ 1) : Calls Try.prog 70 #[.slice a n c] w (RetS (.slice a n c) w) := by
  have i1 : (n : Int) < 2 := by omega
  go_enter Try.func70, Try.ntmps70
  go_wp2
  go_ret
  exact ⟨rfl, rfl⟩
set_option maxRecDepth 100000 in
theorem compI_any (w : World) (a : Option Addr) (n c : Nat) (hn : n ≤ 1) : Calls Try.prog 72 #[.slice a n c] w (RetS (.slice a n c) w) := by
  have i1 : (n : Int) < 2 := by omega
  go_enter Try.func72, Try.ntmps72
  go_wp2
  go_ret
  exact ⟨rfl, rfl⟩
def refC (p : Int × Int) : List Value := [.int .i64 p.1, .int .i64 p.2]
/-- A slice of references of the call's own. -/
def RL (w : World) (base : Nat) (V : Value) (M : List (Int × Int)) : Prop := w.ownsRow base 102 2 V M.length (M.flatMap refC)
theorem RL.nil (w : World) (base : Nat) : RL w base (.slice none 0 0) [] := World.ownsRow_nil _ _ _ _
theorem RL.keep0 {w w2 : World} {base : Nat} {V : Value} {M : List (Int × Int)} (h : RL w base V M) (k : w.grownBy w2 none) : RL w2 base V M := own_keep0 h k
theorem RL.shape {w : World} {base : Nat} {V : Value} {M : List (Int × Int)} (h : RL w base V M) : ∃ a c, V = .slice a M.length c := own_shape h
theorem infoRef : (Try.prog.info? 102).map (fun i => (i.zero, i.size, i.bytes)) = some (some (.agg #[.int .i64 0, .int .i64 0]), 2, 16) := by kernel_rfl
theorem refC_one (t : Int × Int) : ∀ u ∈ refC t, u.oneCell' = true := by
  intro u hu
  simp only [refC, List.mem_cons, List.not_mem_nil, or_false] at hu
  rcases hu with rfl | rfl <;> rfl
theorem pushRef {w : World} {ops : Array Oper} {rest : List Oper} {o : Oper} {a : Act} {Q : Exit → Act → World → Prop} (hgd : o.guard = none) (s x : Operand)
    (ho : o.op = .call { callee := .builtin .append, args := #[s, x], argTypes := #[99, 99] }) (base : Nat) (V : Value) (M : List (Int × Int)) (hs : a.eval s = V) (hown : RL w base V M)
    (ad : Addr) (c : Nat) (T : Int × Int) (hx : a.eval x = .slice (some ad) 1 c) (hT : ∀ j u, (refC T)[j]? = some u → w.cell? (ad.add j) = some u) (hlen : M.length ≤ 1000000) (hbase : base ≤ w.heap.size)
    (h : ∀ V' w', RL w' base V' (M ++ [T]) → w.grownBy w' V.ownBlock → wpList Try.prog ops Q rest (a.put o.dst V') w') : wpList Try.prog ops Q (o :: rest) a w := by
  obtain ⟨i0, hi, hz0, hz1, hz2⟩ := info_parts infoRef
  refine wpList_append_own w hgd s x 99 ho base 102 i0 _ 2 16 Try.underlying99 hi hz0 hz1 hz2 rfl (by decide) V M.length (M.flatMap refC) hs hown ad 1 c (refC T) hx rfl hT (refC_one T) (by unfold maxLen; omega) (by omega) hbase ?_
  intro V' w' h1 h2 h3
  refine h V' w' ?_ h2
  unfold RL
  rw [List.flatMap_append, List.length_append]
  simpa using h1
theorem ref_cell (w : World) (t : TypeId) (g : Nat) (T : Int × Int) (cs : Array Value) (h : IsB w g t cs) (hc : cs.toList = refC T) : ∀ j u, (refC T)[j]? = some u → w.cell? ((⟨g, 0, none⟩ : Addr).add j) = some u := by
  intro j u hj
  have e : ((⟨g, 0, none⟩ : Addr).add j) = ⟨g, j, none⟩ := by unfold Addr.add; split <;> simp_all
  rw [e, h.cell j, ← hj, ← hc]
  simp
/-- A slice of ints of the call's own. -/
def IL (w : World) (base : Nat) (V : Value) (M : List Int) : Prop := w.ownsRow base 3 1 V M.length (M.map (Value.int .i64))
theorem IL.nil (w : World) (base : Nat) : IL w base (.slice none 0 0) [] := World.ownsRow_nil _ _ _ _
theorem IL.keep0 {w w2 : World} {base : Nat} {V : Value} {M : List Int} (h : IL w base V M) (k : w.grownBy w2 none) : IL w2 base V M := own_keep0 h k
theorem IL.shape {w : World} {base : Nat} {V : Value} {M : List Int} (h : IL w base V M) : ∃ a c, V = .slice a M.length c := own_shape h
theorem infoInt : (Try.prog.info? 3).map (fun i => (i.zero, i.size, i.bytes)) = some (some (.int .i64 0), 1, 8) := by kernel_rfl
theorem pushInt {w : World} {ops : Array Oper} {rest : List Oper} {o : Oper} {a : Act} {Q : Exit → Act → World → Prop} (hgd : o.guard = none) (s x : Operand)
    (ho : o.op = .call { callee := .builtin .append, args := #[s, x], argTypes := #[29, 29] }) (base : Nat) (V : Value) (M : List Int) (hs : a.eval s = V) (hown : IL w base V M)
    (ad : Addr) (c : Nat) (T : Int) (hx : a.eval x = .slice (some ad) 1 c) (hT : ∀ j u, ([.int .i64 T] : List Value)[j]? = some u → w.cell? (ad.add j) = some u) (hlen : M.length ≤ 1000000) (hbase : base ≤ w.heap.size)
    (h : ∀ V' w', IL w' base V' (M ++ [T]) → w.grownBy w' V.ownBlock → wpList Try.prog ops Q rest (a.put o.dst V') w') : wpList Try.prog ops Q (o :: rest) a w := by
  obtain ⟨i0, hi, hz0, hz1, hz2⟩ := info_parts infoInt
  refine wpList_append_own w hgd s x 29 ho base 3 i0 _ 1 8 Try.underlying29 hi hz0 hz1 hz2 rfl (by decide) V M.length (M.map (Value.int .i64)) hs hown ad 1 c [.int .i64 T] hx rfl hT (one_one _ rfl) (by unfold maxLen; omega) (by omega) hbase ?_
  intro V' w' h1 h2 h3
  refine h V' w' ?_ h2
  unfold IL
  rw [List.map_append, List.length_append]
  simpa using h1
def refsL (N : List Nd) : List (Int × Int) := (N.filter fun x => x.1 == 2).map fun x => x.2
def hdsL (N : List Nd) : List Int := (N.filter fun x => x.1 == 4).map fun x => x.2.1
theorem take_one {α : Type} (L : List α) (d : α) (j : Nat) (h : j < L.length) : L.take (j + 1) = L.take j ++ [L.getD j d] := by
  rw [List.take_add_one]; simp [h]
theorem refs_yes (N : List Nd) (j : Nat) (h : j < N.length) (b c : Int) (e : N.getD j nz = (2, b, c)) : refsL (N.take (j + 1)) = refsL (N.take j) ++ [(b, c)] := by
  rw [take_one N nz j h, e]; unfold refsL; rw [List.filter_append, List.map_append]; rfl
theorem refs_no (N : List Nd) (j : Nat) (h : j < N.length) (a b c : Int) (e : N.getD j nz = (a, b, c)) (ha : a ≠ 2) : refsL (N.take (j + 1)) = refsL (N.take j) := by
  rw [take_one N nz j h, e]; unfold refsL; rw [List.filter_append, List.filter_cons, List.filter_nil, if_neg (by simpa using ha), List.append_nil]
theorem hds_yes (N : List Nd) (j : Nat) (h : j < N.length) (b c : Int) (e : N.getD j nz = (4, b, c)) : hdsL (N.take (j + 1)) = hdsL (N.take j) ++ [b] := by
  rw [take_one N nz j h, e]; unfold hdsL; rw [List.filter_append, List.map_append]; rfl
theorem hds_no (N : List Nd) (j : Nat) (h : j < N.length) (a b c : Int) (e : N.getD j nz = (a, b, c)) (ha : a ≠ 4) : hdsL (N.take (j + 1)) = hdsL (N.take j) := by
  rw [take_one N nz j h, e]; unfold hdsL; rw [List.filter_append, List.filter_cons, List.filter_nil, if_neg (by simpa using ha), List.append_nil]
theorem refs_len (N : List Nd) (j : Nat) : (refsL (N.take j)).length ≤ j := by
  unfold refsL; rw [List.length_map]; exact Nat.le_trans (List.length_filter_le _ _) (by rw [List.length_take]; omega)
theorem hds_len (N : List Nd) (j : Nat) : (hdsL (N.take j)).length ≤ j := by
  unfold hdsL; rw [List.length_map]; exact Nat.le_trans (List.length_filter_le _ _) (by rw [List.length_take]; omega)
theorem gb_own {W w w2 : World} {base : Nat} {e : TypeId} {size n : Nat} {v : Value} {xs : List Value} (h : W.grownBy w none) (o : w.ownsRow base e size v n xs) (hb : W.heap.size ≤ base) (k : w.grownBy w2 v.ownBlock) : W.grownBy w2 none := by
  cases hv : v.ownBlock with
  | none => rw [hv] at k; exact gb_trans h k
  | some g =>
    rw [hv] at k
    have := (World.ownsRow.lt o g hv).1
    exact gb_row h k (by omega)
set_option maxRecDepth 100000 in
set_option maxHeartbeats 4000000 in
theorem fieldsS_any (w : World) (a : Option Addr) (n c : Nat) (N : List Nd) (hN : SN w a n c N) (hn : n ≤ 1000) (h1 : (refsL N).length ≤ 1) : Calls Try.prog 39 #[.slice a n c] w (fun e w' => ∃ V, e = .returned V ∧ RL w' w.heap.size V (refsL N) ∧ w.grownBy w' none) := by
  have HN := Lib.hid hN
  have NL := Lib.hid hN.len
  have ncap := hN.cap
  have H1 := Lib.hid h1
  clear hN h1
  go_enter Try.func39, Try.ntmps39
  go_wp2
  go_loopw [3, 8] (fun s3 s8 wr => ∃ (j : Nat) (M : List (Int × Int)), j ≤ n ∧ s8 = .int .i64 j ∧ M = refsL (N.take j) ∧ RL wr w.heap.size s3 M ∧ w.grownBy wr none) (fun _ s8 _ => n - (intOf s8).toNat)
  case atStart => exact ⟨0, [], Nat.zero_le _, rfl, rfl, RL.nil _ _, gb_refl _ _⟩
  case round =>
    obtain ⟨j, M, hj, rfl, hM, ho, hg⟩ := hrel
    obtain ⟨va, vc, rfl⟩ := ho.shape
    have ml : M.length ≤ 1000 := by rw [hM]; exact Nat.le_trans (refs_len N j) (by omega)
    have HM := Lib.hid hM
    have HO := Lib.hid ho
    have HG := Lib.hid hg
    clear hM ho hg
    by_cases hlt : j < n
    · have i1 : (j : Int) < n := by omega
      have i0 : (0 : Int) ≤ (j : Int) := by omega
      obtain ⟨ad, rfl⟩ := HN.out.some (by omega)
      obtain ⟨c0, c1, c2⟩ := (HN.out.keep0 HG.out).cells ad rfl j hlt
      obtain ⟨x, hx⟩ : ∃ x, x = N.getD j nz := ⟨_, rfl⟩
      rw [← hx] at c0 c1 c2
      obtain ⟨xo, xn, xw⟩ := x
      have HX := Lib.hid hx.symm
      clear hx
      dsimp only at c0 c1 c2
      by_cases h2 : xo = 2
      · subst h2
        have HY := Lib.hid (show M ++ [(xn, xw)] = refsL (N.take (j + 1)) by rw [refs_yes N j (by rw [NL.out]; exact hlt) xn xw HX.out, HM.out])
        have GA := Lib.hid (gb_al (o := .cells #[.int .i64 2, .int .i64 xn, .int .i64 xw] 51) HG.out)
        have OA := Lib.hid (HO.out.keep0 (gb_alloc wr (.cells #[.int .i64 2, .int .i64 xn, .int .i64 xw] 51) none))
        have FR := Lib.hid (fun w => fref_any w 2 xn xw)
        unfold RetV at FR
        go_wp2_with fail
        refine (FR.out _).mono ?_
        rintro e w3 ⟨rfl, g3⟩
        have GB := Lib.hid (gb_al (o := .cells #[.int .i64 xn, .int .i64 xw] 102) (gb_trans GA.out g3))
        have OB := Lib.hid ((OA.out.keep0 g3).keep0 (gb_alloc w3 (.cells #[.int .i64 xn, .int .i64 xw] 102) none))
        have TB := Lib.hid (ref_cell _ _ _ (xn, xw) _ (IsB.new w3 102 #[.int .i64 xn, .int .i64 xw]) rfl)
        clear g3
        go_wp2_with (at_builtin; refine pushRef rfl _ _ rfl w.heap.size _ M rfl OB.out _ _ (xn, xw) rfl TB.out (by omega) GB.out.size ?_)
        intro V9 w9 o9 g9
        have O9 := Lib.hid (show RL w9 w.heap.size V9 (refsL (N.take (j + 1))) by rw [← HY.out]; exact o9)
        have G9 := Lib.hid (gb_own GB.out OB.out (Nat.le_refl _) g9)
        clear o9 g9
        go_wp2
        go_roundw
        case rel => exact ⟨j + 1, _, by omega, by go_num, rfl, O9.out, G9.out⟩
        case measure => simp [intOf]; omega
      · have e1 : (xo == 2) = false := by rw [beq_eq_false_iff_ne]; exact h2
        have e2 : decide (xo = 2) = false := decide_eq_false h2
        have HY := Lib.hid (show M = refsL (N.take (j + 1)) by rw [refs_no N j (by rw [NL.out]; exact hlt) xo xn xw HX.out h2, HM.out])
        go_wp2
        go_roundw
        case rel => exact ⟨j + 1, M, by omega, by go_num, HY.out, by first | exact HO.out.keep0 (gb_al (gb_refl _ _)) | exact HO.out, by first | exact gb_al HG.out | exact HG.out⟩
        case measure => simp [intOf]; omega
    · have hje : j = n := by omega
      have MM := Lib.hid (show M = refsL N by rw [HM.out, List.take_of_length_le (by rw [NL.out]; omega)])
      have m1 : M.length ≤ 1 := by rw [MM.out]; exact H1.out
      have SO := Lib.hid (fun w => sortF_any w va M.length vc (.func (.func 69) #[] #[]) m1)
      have CO := Lib.hid (fun w => compF_any w va M.length vc m1)
      unfold RetS at SO CO
      generalize hml : M.length = ml' at *
      have i1 : ¬ (j : Int) < n := by omega
      go_wp2_with fail
      refine (SO.out _).mono ?_
      rintro e w1 ⟨rfl, rfl⟩
      go_wp2_with fail
      refine (CO.out _).mono ?_
      rintro e w2 ⟨rfl, rfl⟩
      go_wp2
      go_ret
      exact ⟨_, rfl, by rw [← MM.out]; exact HO.out, HG.out⟩
set_option maxRecDepth 100000 in
set_option maxHeartbeats 4000000 in
theorem headersS_any (w : World) (a : Option Addr) (n c : Nat) (N : List Nd) (hN : SN w a n c N) (hn : n ≤ 1000) (h1 : (hdsL N).length ≤ 1) : Calls Try.prog 41 #[.slice a n c] w (fun e w' => ∃ V, e = .returned V ∧ IL w' w.heap.size V (hdsL N) ∧ w.grownBy w' none) := by
  have HN := Lib.hid hN
  have NL := Lib.hid hN.len
  have ncap := hN.cap
  have H1 := Lib.hid h1
  clear hN h1
  go_enter Try.func41, Try.ntmps41
  go_wp2
  go_loopw [3, 8] (fun s3 s8 wr => ∃ (j : Nat) (M : List Int), j ≤ n ∧ s8 = .int .i64 j ∧ M = hdsL (N.take j) ∧ IL wr w.heap.size s3 M ∧ w.grownBy wr none) (fun _ s8 _ => n - (intOf s8).toNat)
  case atStart => exact ⟨0, [], Nat.zero_le _, rfl, rfl, IL.nil _ _, gb_refl _ _⟩
  case round =>
    obtain ⟨j, M, hj, rfl, hM, ho, hg⟩ := hrel
    obtain ⟨va, vc, rfl⟩ := ho.shape
    have ml : M.length ≤ 1000 := by rw [hM]; exact Nat.le_trans (hds_len N j) (by omega)
    have HM := Lib.hid hM
    have HO := Lib.hid ho
    have HG := Lib.hid hg
    clear hM ho hg
    by_cases hlt : j < n
    · have i1 : (j : Int) < n := by omega
      have i0 : (0 : Int) ≤ (j : Int) := by omega
      obtain ⟨ad, rfl⟩ := HN.out.some (by omega)
      obtain ⟨c0, c1, c2⟩ := (HN.out.keep0 HG.out).cells ad rfl j hlt
      obtain ⟨x, hx⟩ : ∃ x, x = N.getD j nz := ⟨_, rfl⟩
      rw [← hx] at c0 c1 c2
      obtain ⟨xo, xn, xw⟩ := x
      have HX := Lib.hid hx.symm
      clear hx
      dsimp only at c0 c1 c2
      by_cases h2 : xo = 4
      · subst h2
        have HY := Lib.hid (show M ++ [xn] = hdsL (N.take (j + 1)) by rw [hds_yes N j (by rw [NL.out]; exact hlt) xn xw HX.out, HM.out])
        have GA := Lib.hid (gb_al (o := .cells #[.int .i64 4, .int .i64 xn, .int .i64 xw] 51) HG.out)
        have OA := Lib.hid (HO.out.keep0 (gb_alloc wr (.cells #[.int .i64 4, .int .i64 xn, .int .i64 xw] 51) none))
        obtain ⟨W3, hW3⟩ : ∃ W3, W3 = wr.alloc (.cells #[.int .i64 4, .int .i64 xn, .int .i64 xw] 51) := ⟨_, rfl⟩
        rw [← hW3] at GA OA
        have GB := Lib.hid (gb_al (o := .cells #[.int .i64 xn] 3) GA.out)
        have OB := Lib.hid (OA.out.keep0 (gb_alloc W3 (.cells #[.int .i64 xn] 3) none))
        have TB := Lib.hid (one_cell W3 3 (.int .i64 xn) W3.heap.size rfl)
        rw [hW3] at GB OB TB
        clear hW3
        go_wp2_with (at_builtin; refine pushInt rfl _ _ rfl w.heap.size _ M rfl OB.out _ _ xn rfl (by first | exact TB.out | simpa using TB.out) (by omega) GB.out.size ?_)
        intro V9 w9 o9 g9
        have O9 := Lib.hid (show IL w9 w.heap.size V9 (hdsL (N.take (j + 1))) by rw [← HY.out]; exact o9)
        have G9 := Lib.hid (gb_own GB.out OB.out (Nat.le_refl _) g9)
        clear o9 g9
        go_wp2
        go_roundw
        case rel => exact ⟨j + 1, _, by omega, by go_num, rfl, O9.out, G9.out⟩
        case measure => simp [intOf]; omega
      · have e1 : (xo == 4) = false := by rw [beq_eq_false_iff_ne]; exact h2
        have e2 : decide (xo = 4) = false := decide_eq_false h2
        have HY := Lib.hid (show M = hdsL (N.take (j + 1)) by rw [hds_no N j (by rw [NL.out]; exact hlt) xo xn xw HX.out h2, HM.out])
        go_wp2
        go_roundw
        case rel => exact ⟨j + 1, M, by omega, by go_num, HY.out, by first | exact HO.out.keep0 (gb_al (gb_refl _ _)) | exact HO.out, by first | exact gb_al HG.out | exact HG.out⟩
        case measure => simp [intOf]; omega
    · have hje : j = n := by omega
      have MM := Lib.hid (show M = hdsL N by rw [HM.out, List.take_of_length_le (by rw [NL.out]; omega)])
      have m1 : M.length ≤ 1 := by rw [MM.out]; exact H1.out
      have SO := Lib.hid (fun w => sortI_any w va M.length vc m1)
      have CO := Lib.hid (fun w => compI_any w va M.length vc m1)
      unfold RetS at SO CO
      generalize hml : M.length = ml' at *
      have i1 : ¬ (j : Int) < n := by omega
      go_wp2_with fail
      refine (SO.out _).mono ?_
      rintro e w1 ⟨rfl, rfl⟩
      go_wp2_with fail
      refine (CO.out _).mono ?_
      rintro e w2 ⟨rfl, rfl⟩
      go_wp2
      go_ret
      exact ⟨_, rfl, by rw [← MM.out]; exact HO.out, HG.out⟩
end Go.Proofs.Ytfjeonoihdgdoaa
