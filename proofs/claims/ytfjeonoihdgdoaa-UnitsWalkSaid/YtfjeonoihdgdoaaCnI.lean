/- Control: rows of nodes of the call's own; the reference's Preorder; no condition but that the tree lies in memory and is not large. -/
import Derived.Test.YtfjeonoihdgdoaaCnE
import Derived.Deep.Onto
import Derived.Test.YtfjeonoihdgdoaaExWo
namespace Go.Proofs.Ytfjeonoihdgdoaa
open Go.RowKit
set_option linter.unusedVariables false
/-- The cells of a node, one by one. -/
def cel (x : CV) : List Value := [.int .i64 x.k, .int .i64 x.t, .slice x.c.a x.c.n x.c.c, .slice x.s.a x.s.n x.s.c, .slice x.u.a x.u.n x.u.c]
def cz : CV := ⟨0, 0, ⟨none, 0, 0⟩, [], ⟨none, 0, 0⟩, .nil, ⟨none, 0, 0⟩, .nil⟩
/-- A row of nodes that the call owns. -/
def CNL (w : World) (base : Nat) (V : Value) (L : List CV) : Prop := w.ownsRow base 63 5 V L.length (L.flatMap cel)
theorem CNL.nil (w : World) (base : Nat) : CNL w base (.slice none 0 0) [] := World.ownsRow_nil _ _ _ _
theorem CNL.keep0 {w w2 : World} {base : Nat} {V : Value} {L : List CV} (h : CNL w base V L) (k : w.grownBy w2 none) : CNL w2 base V L := own_keep0 h k
theorem CNL.shape {w : World} {base : Nat} {V : Value} {L : List CV} (h : CNL w base V L) : ∃ a c, V = .slice a L.length c := own_shape h
theorem infoCN : (Try.prog.info? 63).map (fun i => (i.zero, i.size, i.bytes)) = some (some (.agg #[.int .i64 0, .int .i64 0, .slice none 0 0, .slice none 0 0, .slice none 0 0]), 5, 88) := by kernel_rfl
theorem cel_one (x : CV) : ∀ u ∈ cel x, u.oneCell' = true := by
  intro u hu
  simp only [cel, List.mem_cons, List.not_mem_nil, or_false] at hu
  rcases hu with rfl | rfl | rfl | rfl | rfl <;> rfl
theorem cels_one (M : List CV) : ∀ u ∈ M.flatMap cel, u.oneCell' = true := by
  intro u hu
  obtain ⟨x, _, hx⟩ := List.mem_flatMap.1 hu
  exact cel_one x u hx
theorem cel_len (M : List CV) : (M.flatMap cel).length = M.length * 5 := by
  induction M with
  | nil => rfl
  | cons p M ih => rw [List.flatMap_cons, List.length_append, ih]; simp [cel]; omega
theorem flat5 (M : List CV) : ∀ (i r : Nat), i < M.length → r < 5 → (M.flatMap cel)[i * 5 + r]? = (cel (M.getD i cz))[r]? := by
  induction M with
  | nil => intro i r h; cases h
  | cons p M ih =>
    intro i r h hr
    rw [List.flatMap_cons]
    cases i with
    | zero =>
      rw [Nat.zero_mul, Nat.zero_add, List.getElem?_append_left (by simpa [cel] using hr)]
      rfl
    | succ i =>
      rw [List.getElem?_append_right (by simp [cel]; omega)]
      have e : (i + 1) * 5 + r - (cel p).length = i * 5 + r := by simp [cel]; omega
      rw [e, ih i r (by simpa using h) hr]
      rfl
/-- What is known of a row of nodes that is only read. -/
def CSl (w : World) (a : Option Addr) (n c : Nat) (M : List CV) : Prop :=
  M.length = n ∧ (a = none → n = 0 ∧ c = 0) ∧ ∀ ad, a = some ad → ∀ j u, (M.flatMap cel)[j]? = some u → w.cell? (ad.add j) = some u
theorem addr0c (g j : Nat) : ((⟨g, 0, none⟩ : Addr).add j) = ⟨g, j, none⟩ := by unfold Addr.add; split <;> simp_all
theorem CNL.slr {w : World} {base c : Nat} {a : Option Addr} {L : List CV} (h : CNL w base (.slice a L.length c) L) : CSl w a L.length c L := by
  refine ⟨rfl, ?_, ?_⟩
  · intro ha; subst ha
    rcases h.2 with ⟨k, e⟩ | ⟨g, cap, cur, k, _⟩
    · injection k with _ _ kc; exact ⟨e, kc⟩
    · injection k with k; cases k
  · intro ad ha j u hu
    subst ha
    have hp : 0 < L.length := by
      cases L with
      | nil => simp at hu
      | cons p L => simp
    obtain ⟨g, c2, hv⟩ := own_head h hp
    injection hv with hv _ hc
    injection hv with hv
    subst hv hc
    have hj : j < L.length * 5 := by rw [← cel_len]; exact (List.getElem?_eq_some_iff.1 hu).1
    rw [addr0c, h.cellAt j hj]
    exact hu
theorem one_csl (w : World) (x : CV) (t : TypeId) : CSl (w.alloc (.cells x.cs t)) (some ⟨w.heap.size, 0, none⟩) 1 1 [x] := by
  refine ⟨rfl, (fun e => by cases e), fun ad e j u hu => ?_⟩
  cases e
  rw [addr0c, (IsB.new w t x.cs).cell j]
  simpa [cel] using hu
theorem cpush_any {w : World} {ops : Array Oper} {rest : List Oper} {o : Oper} {a : Act} {Q : Exit → Act → World → Prop} (hgd : o.guard = none) (s x : Operand)
    (ho : o.op = .call { callee := .builtin .append, args := #[s, x], argTypes := #[28, 28] }) (base : Nat) (V : Value) (L : List CV) (hs : a.eval s = V) (hown : CNL w base V L)
    (ad : Option Addr) (m c : Nat) (M : List CV) (hx : a.eval x = .slice ad m c) (hM : CSl w ad m c M) (hlen : L.length + M.length ≤ 2000000) (hbase : base ≤ w.heap.size)
    (h : ∀ V' w', CNL w' base V' (L ++ M) → w.grownBy w' V.ownBlock → wpList Try.prog ops Q rest (a.put o.dst V') w') : wpList Try.prog ops Q (o :: rest) a w := by
  obtain ⟨i0, hi, hz0, hz1, hz2⟩ := info_parts infoCN
  have hl : M.length = m := hM.1
  subst hl
  cases ad with
  | none =>
    obtain ⟨h0, rfl⟩ := hM.2.1 rfl
    have hm : M = [] := List.length_eq_zero_iff.1 h0
    subst hm
    refine wpList_append_own_none hgd s x 28 ho base 63 i0 5 Try.underlying28 hi V L.length (L.flatMap cel) hs hown hx ?_
    refine h V w (by simpa [CNL] using hown) ?_
    cases V.ownBlock <;> exact gb_refl _ _
  | some ad =>
    refine wpList_append_own w hgd s x 28 ho base 63 i0 _ 5 88 Try.underlying28 hi hz0 hz1 hz2 rfl (by decide) V L.length (L.flatMap cel) hs hown ad M.length c (M.flatMap cel) hx (cel_len M) (hM.2.2 ad rfl) (cels_one M) (by unfold maxLen; omega) (by omega) hbase ?_
    intro V' w' h1 h2 h3
    exact h V' w' (by unfold CNL; rw [List.length_append, List.flatMap_append]; exact h1) h2
/-- The call returns a row of nodes of its own. -/
def RetCN (L : List CV) (w : World) (e : Ending) (w' : World) : Prop := ∃ a c, e = .returned (.slice a L.length c) ∧ CNL w' w.heap.size (.slice a L.length c) L ∧ w.grownBy w' none
set_option maxRecDepth 100000 in
set_option maxHeartbeats 8000000 in
theorem rpre_rec : ∀ (m : Nat) (T : CT) (s : Sl) (w : World), T.cnt < m → T.cnt ≤ 1000000 → ST w s T → Calls Try.prog 82 #[.slice s.a s.n s.c] w (RetCN T.pre w) := by
  intro m
  induction m with
  | zero => intro T s w h; omega
  | succ m ih =>
    intro T s w hm hc hS
    obtain ⟨sa, sn, sc⟩ := s
    have IH := Lib.hid ih
    have HM := Lib.hid hm
    have HC := Lib.hid hc
    have HS := Lib.hid hS
    have SL := Lib.hid hS.len
    have scap : sn ≤ sc := hS.cap
    have sb : sn ≤ 1000000 := by have := hS.len; have := CT.len_cnt T; dsimp only at *; omega
    clear ih hm hc hS
    dsimp only at *
    go_enter Try.func82, Try.ntmps82
    go_wp2
    go_loopw [3, 4] (fun s3 s4 wr => ∃ (j : Nat) (L : List CV), s4 = .int .i64 (j : Int) ∧ CNL wr w.heap.size s3 L ∧ j ≤ sn ∧ L ++ (T.drop j).pre = T.pre ∧ w.grownBy wr none) (fun _ s4 _ => sn - (intOf s4).toNat)
    case atStart => exact ⟨0, [], rfl, CNL.nil _ _, Nat.zero_le _, by rw [CT.drop_zero]; rfl, gb_refl _ _⟩
    case round =>
      obtain ⟨j, L, rfl, ho, hj, hg, hgr⟩ := hrel
      obtain ⟨va, vc, rfl⟩ := ho.shape
      have HO := Lib.hid ho
      have HG := Lib.hid hg
      have GR := Lib.hid hgr
      have TC := Lib.hid (show L.length + (T.drop j).cnt = T.cnt by have h := congrArg List.length hg; rw [List.length_append] at h; exact h)
      clear hg hgr ho
      by_cases hlt : j < sn
      · have i1 : (j : Int) < sn := by omega
        have i0 : (0 : Int) ≤ (j : Int) := by omega
        obtain ⟨x, ad, hsa, hd, ⟨c0, c1, c2, c3, c4⟩, vm⟩ := HS.out.at_ j hlt
        dsimp only at hsa
        subst hsa
        have HD := Lib.hid hd
        have VMx := Lib.hid vm
        have hcn := cnt_th hd
        have CNx := Lib.hid (show x.th.cnt < m ∧ x.el.cnt < m ∧ x.th.cnt ≤ 1000000 ∧ x.el.cnt ≤ 1000000 by have := HM.out; have := HC.out; omega)
        have CA := Lib.hid (cnt_at hd)
        have PA := Lib.hid (pre_at hd)
        have I1 := Lib.hid (fun (w2 : World) (g : w.grownBy w2 none) => IH.out x.th x.s w2 CNx.out.1 CNx.out.2.2.1 (VMx.out.s.keep0 g))
        have I2 := Lib.hid (fun (w2 : World) (g : w.grownBy w2 none) => IH.out x.el x.u w2 CNx.out.2.1 CNx.out.2.2.2 (VMx.out.u.keep0 g))
        have GC := Lib.hid (fun (w2 : World) (g : w.grownBy w2 none) => (⟨g.cell c3 (by simp), g.cell c4 (by simp)⟩ : w2.cell? ⟨(ad.add (j * 5)).block, (ad.add (j * 5)).off + 3, none⟩ = some (.slice x.s.a x.s.n x.s.c) ∧ w2.cell? ⟨(ad.add (j * 5)).block, (ad.add (j * 5)).off + 4, none⟩ = some (.slice x.u.a x.u.n x.u.c)))
        replace c0 := GR.out.cell c0 (by simp)
        replace c1 := GR.out.cell c1 (by simp)
        replace c2 := GR.out.cell c2 (by simp)
        replace c3 := GR.out.cell c3 (by simp)
        replace c4 := GR.out.cell c4 (by simp)
        have GA := Lib.hid (gb_al (o := .cells x.cs 63) GR.out)
        have OA := Lib.hid (HO.out.keep0 (gb_alloc wr (.cells x.cs 63) none))
        have OC := Lib.hid (one_csl wr x 63)
        have LB := Lib.hid (show L.length ≤ 1000000 by have := TC.out; have := HC.out; omega)
        unfold RetCN at I1 I2
        have TQ := Lib.hid (show x.th.pre.length = x.th.cnt from rfl)
        have EQ := Lib.hid (show x.el.pre.length = x.el.cnt from rfl)
        have BND := Lib.hid (show L.length + 1 + x.th.pre.length + x.el.pre.length ≤ 1000000 by have := TC.out; have := CA.out; have := HC.out; have := TQ.out; have := EQ.out; omega)
        generalize x.th.pre = P1 at *
        generalize x.el.pre = P2 at *
        clear hcn hd vm
        go_upto_region 6 with (at_builtin; refine cpush_any rfl _ _ rfl w.heap.size _ L rfl OA.out _ _ _ [x] rfl OC.out (by have := LB.out; simp; omega) GA.out.size ?_; intro V7 w7 o7 g7; have O7 := Lib.hid o7; have G7 := Lib.hid (gb_own GA.out OA.out (Nat.le_refl _) g7); clear o7 g7; obtain ⟨a7, q7, rfl⟩ := O7.out.shape; generalize (L ++ [x]).length = k7 at *)
        obtain ⟨d3, d4⟩ := GC.out _ G7.out
        clear c0 c1 c2 c3 c4 GA OA OC HO
        go_upto_region 7 with (first
          | (go_at_call 82; refine (I1.out _ G7.out).mono ?_; rintro e w8 ⟨a8, q8, rfl, r8, g8⟩; have R8 := Lib.hid r8; have G8 := Lib.hid (gb_trans G7.out g8); have O8 := Lib.hid (O7.out.keep0 g8); clear r8 g8)
          | (at_builtin; refine cpush_any rfl _ _ rfl w.heap.size _ (L ++ [x]) rfl O8.out _ _ _ P1 rfl R8.out.slr (by have := BND.out; simp; omega) G8.out.size ?_; intro V9 w9 o9 g9; have O9 := Lib.hid o9; have G9 := Lib.hid (gb_own G8.out O8.out (Nat.le_refl _) g9); clear o9 g9; obtain ⟨a9, q9, rfl⟩ := O9.out.shape; generalize (L ++ [x] ++ P1).length = k9 at *))
        clear d3 d4
        obtain ⟨d3, d4⟩ := GC.out _ G9.out
        go_wp2_with (first
          | (go_at_call 82; refine (I2.out _ G9.out).mono ?_; rintro e w10 ⟨a10, q10, rfl, r10, g10⟩; have R10 := Lib.hid r10; have G10 := Lib.hid (gb_trans G9.out g10); have O10 := Lib.hid (O9.out.keep0 g10); clear r10 g10)
          | (at_builtin; refine cpush_any rfl _ _ rfl w.heap.size _ (L ++ [x] ++ P1) rfl O10.out _ _ _ P2 rfl R10.out.slr (by have := BND.out; simp; omega) G10.out.size ?_; intro V11 w11 o11 g11; have O11 := Lib.hid o11; have G11 := Lib.hid (gb_own G10.out O10.out (Nat.le_refl _) g11); clear o11 g11))
        go_roundw
        case rel => exact ⟨j + 1, L ++ [x] ++ P1 ++ P2, by go_num, O11.out, by omega, by rw [← HG.out, PA.out]; simp, G11.out⟩
        case measure => simp [intOf]; omega
      · have hje : j = sn := by omega
        have i1 : ¬ (j : Int) < sn := by omega
        have FI := Lib.hid (show L = T.pre by have h := HG.out; rw [CT.drop_all T j (by rw [SL.out]; omega)] at h; simpa [CT.pre] using h)
        go_wp2
        go_ret
        exact ⟨va, vc, by rw [← FI.out] <;> rfl, by rw [← FI.out]; exact HO.out, GR.out⟩
theorem rpre_any (w : World) (s : Sl) (T : CT) (hS : ST w s T) (hc : T.cnt ≤ 1000000) : Calls Try.prog 82 #[.slice s.a s.n s.c] w (RetCN T.pre w) := rpre_rec (T.cnt + 1) T s w (by omega) hc hS
end Go.Proofs.Ytfjeonoihdgdoaa
