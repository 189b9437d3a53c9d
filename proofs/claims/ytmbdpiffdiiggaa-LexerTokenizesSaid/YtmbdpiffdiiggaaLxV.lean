/- A string appended to bytes; the walk of repeat; no condition but sizes. -/
import Derived.Test.YtmbdpiffdiiggaaLxM
import Derived.Deep.AppendSrc
namespace Go.Proofs.Ytmbdpiffdiiggaa
open Go.RowKit
set_option linter.unusedVariables false

theorem byteCells_str (M : List Int) (hM : ∀ x ∈ M, 0 ≤ x ∧ x ≤ 255) : byteCells (strOf M) = M.map (Value.int .u8) := by
  unfold byteCells
  rw [strOf_data, List.map_map]
  apply List.map_congr_left
  intro x hx
  have := hM x hx
  simp
  omega
theorem run_append_room_str {P : Program} (w : World) (t tx ty e : TypeId) (i : TypeInfo) (ht : P.underlying t = some (.slice e)) (hk : P.underlying tx = some .string) (hi : P.info? e = some i) (hsize : i.size = 1)
    (g sLen sCap : Nat) (cur : Array Value) (hg : w.heap[g]? = some (.cells cur e (0, 0))) (s : ByteArray) (hroom : sLen + s.size ≤ sCap) (hfit : sLen + s.size ≤ cur.size) :
    (Builtin.append_ #[t, tx] ty #[.slice (some ⟨g, 0, none⟩) sLen sCap, .string s]).run P w =
      .ok (.slice (some ⟨g, 0, none⟩) (sLen + s.size) sCap) (w.setRow g (cur.toList.take sLen ++ byteCells s ++ cur.toList.drop (sLen + s.size)).toArray) := by
  have hf := firstCells_string (P := P) s w
  have hone : ∀ u ∈ byteCells s, u.oneCell' = true := fun u hu => by
    obtain ⟨_, _, rfl⟩ := List.mem_map.1 hu
    rfl
  have hl := byteCells_length s
  have hst := run_storeCells_at P g sLen e (byteCells s) 0 cur w hg (by omega) hone
  simp only [Nat.add_zero, hl] at hst
  simp [Builtin.append_, run_underlying ht, run_underlying hk, sizeOf, typeInfo, hi, hsize, Builtin.lenOf, hroom, hf, Addr.add_lit, hst]
theorem run_append_own_str {w : World} (ty : TypeId) (base : Nat) (V : Value) (L M : List Int) (hown : BL w base V L) (hM : ∀ x ∈ M, 0 ≤ x ∧ x ≤ 255) (h1 : 1 ≤ M.length) (hlen : L.length + M.length ≤ 1000000) (hbase : base ≤ w.heap.size) :
    ∃ V' w', (Builtin.append_ #[35, 9] ty #[V, .string (strOf M)]).run Try.prog w = .ok V' w' ∧ BL w' base V' (L ++ M) ∧ w.grownBy w' V.ownBlock := by
  obtain ⟨i0, hi, hz0, hz1, hz2⟩ := info_parts infoU8
  have hz := strOf_size M
  have hbc := byteCells_str M hM
  have hsrc := Src.ofString (P := Try.prog) (w := w) Try.underlying9 (strOf M)
  rw [hz, hbc] at hsrc
  have hll : ((L ++ M).map (Value.int .u8)).length = (L.length + M.length) * 1 := by simp
  have grown : ∀ (old : Nat), old < L.length + M.length → ∀ (row : Option Nat),
      (w.drew.alloc (.cells ((L.map (Value.int .u8) ++ M.map (Value.int .u8)).toArray ++ Builtin.zeroCells (Value.cells (.int .u8 0)) (grownCap w (L.length + M.length) old 5 - (L.length + M.length))) 5)).ownsRow base 5 1
        (.slice (some ⟨w.heap.size, 0, none⟩) (L.length + M.length) (grownCap w (L.length + M.length) old 5)) (L.length + M.length) ((L ++ M).map (Value.int .u8)) ∧
      w.grownBy (w.drew.alloc (.cells ((L.map (Value.int .u8) ++ M.map (Value.int .u8)).toArray ++ Builtin.zeroCells (Value.cells (.int .u8 0)) (grownCap w (L.length + M.length) old 5 - (L.length + M.length))) 5)) row := by
    intro old ho row
    have hge := grownCap_ge w (L.length + M.length) old 5
    have hcm : grownCap w (L.length + M.length) old 5 ≤ maxLen := grownCap_le_maxLen w _ old _ (by unfold maxLen; omega)
    refine ⟨⟨hll, .inr ⟨w.heap.size, _, _, rfl, hbase, heap_alloc_new w.drew _, hge, hcm, ?_, ?_⟩⟩, gb_trans (gb_drew w row) (gb_alloc _ _ row)⟩
    · have e1 : (Value.cells (.int .u8 0)).size = 1 := rfl
      simp only [Array.size_append, List.size_toArray, size_zeroCells, e1, List.length_append, List.length_map]
      omega
    · simp only [Array.toList_append]
      rw [List.map_append, ← hll, List.map_append]
      exact List.take_left
  unfold BL at hown ⊢
  rw [List.length_append]
  rcases hown.2 with ⟨rfl, hn⟩ | ⟨g, cap, cur, rfl, hbg, hg, hnc, hcm, hcs, htake⟩
  · have hL : L = [] := List.eq_nil_of_length_eq_zero hn
    subst hL
    have hr := run_append_grow_src (P := Try.prog) w 35 9 ty 5 i0 (.int .u8 0) Try.underlying35 hi hz0 none 0 0 [] (by rw [hz1]; exact run_firstCells_none w.drew 1 0 0 0) (.string (strOf M)) M.length (M.map (Value.int .u8)) (by rw [hz1]; exact hsrc)
      (by omega) (by simp; omega) (growslice_fits (by omega) (by rw [hz2]; omega))
    have hgr := grown 0 (by simp; omega) (Value.ownBlock (.slice none 0 0))
    simp only [List.length_nil, Nat.zero_add, List.map_nil, List.nil_append] at hgr hr ⊢
    exact ⟨_, _, hr, hgr.1, hgr.2⟩
  · by_cases hroom : L.length + M.length ≤ cap
    · have hr := run_append_room_str (P := Try.prog) w 35 9 ty 5 i0 Try.underlying35 Try.underlying9 hi hz1 g L.length cap cur hg (strOf M) (by rw [hz]; exact hroom) (by rw [hz, hcs]; omega)
      rw [hz, hbc] at hr
      refine ⟨_, _, hr, ⟨by simp, .inr ⟨g, cap, _, rfl, hbg, setRow_heap w g cur _ 5 _ hg, hroom, hcm, ?_, ?_⟩⟩, ⟨rfl, rfl, rfl, by simp, fun k _ hk => setRow_other w g k _ (fun e => hk (by simp [Value.ownBlock, e]))⟩⟩
      · simp only [List.size_toArray, List.length_append, List.length_take, List.length_drop, Array.length_toList, List.length_map]
        omega
      · have ht : cur.toList.take L.length = L.map (Value.int .u8) := by simpa using htake
        rw [ht, List.map_append]
        have e : (L.length + M.length) * 1 = (L.map (Value.int .u8) ++ M.map (Value.int .u8)).length := by simp
        rw [e]
        exact List.take_left
    · have holds : ∀ j u, (L.map (Value.int .u8))[j]? = some u → w.cell? ((⟨g, 0, none⟩ : Addr).add j) = some u := hown.cells (g := g) rfl
      have hold : (Builtin.firstCells 1 L.length (.slice (some ⟨g, 0, none⟩) L.length cap)).run Try.prog w.drew = .ok (L.map (Value.int .u8)).toArray w.drew :=
        run_firstCells_some w.drew 1 L.length ⟨g, 0, none⟩ L.length cap _ (by simp) (by simpa using holds)
      have hr := run_append_grow_src (P := Try.prog) w 35 9 ty 5 i0 (.int .u8 0) Try.underlying35 hi hz0 (some ⟨g, 0, none⟩) L.length cap (L.map (Value.int .u8)) (by rw [hz1]; exact hold) (.string (strOf M)) M.length (M.map (Value.int .u8)) (by rw [hz1]; exact hsrc)
        (by omega) (by omega) (growslice_fits (by omega) (by rw [hz2]; omega))
      have hgr := grown cap (by omega) (Value.ownBlock (.slice (some ⟨g, 0, none⟩) L.length cap))
      exact ⟨_, _, hr, hgr.1, hgr.2⟩
theorem push_str {w : World} {ops : Array Oper} {rest : List Oper} {o : Oper} {a : Act} {Q : Exit → Act → World → Prop} (hgd : o.guard = none) (s x : Operand)
    (ho : o.op = .call { callee := .builtin .append, args := #[s, x], argTypes := #[35, 9] }) (base : Nat) (V : Value) (L : List Int) (hs : a.eval s = V) (hown : BL w base V L)
    (M : List Int) (hx : a.eval x = .string (strOf M)) (hM : ∀ x ∈ M, 0 ≤ x ∧ x ≤ 255) (h1 : 1 ≤ M.length) (hlen : L.length + M.length ≤ 1000000) (hbase : base ≤ w.heap.size)
    (h : ∀ V' w', BL w' base V' (L ++ M) → w.grownBy w' V.ownBlock → wpList Try.prog ops Q rest (a.put o.dst V') w') : wpList Try.prog ops Q (o :: rest) a w := by
  refine wpList_plain hgd fun K hK => ?_
  obtain ⟨V', w', hr, h2, h3⟩ := run_append_own_str o.type base V L M hown hM h1 hlen hbase
  unfold Oper.wp execOp
  simp only [ho, resolve, invoke, builtin, Sem.run_bind, Sem.run_pure, Result.andThen_ok, List.map_toArray, List.map_cons, List.map_nil, hs, hx, hr]
  exact hK _ _ (h V' w' h2 h3)

def repL (M : List Int) : Nat → List Int
  | 0 => []
  | k + 1 => repL M k ++ M
theorem repL_len (M : List Int) (k : Nat) : (repL M k).length = k * M.length := by
  induction k with
  | zero => simp [repL]
  | succ k ih => simp [repL, ih, Nat.succ_mul]
theorem repL_range (M : List Int) (hM : ∀ x ∈ M, 0 ≤ x ∧ x ≤ 255) (k : Nat) : ∀ x ∈ repL M k, 0 ≤ x ∧ x ≤ 255 := by
  induction k with
  | zero => intro x hx; simp [repL] at hx
  | succ k ih =>
    intro x hx
    rcases List.mem_append.1 hx with h | h
    · exact ih x h
    · exact hM x h
set_option maxRecDepth 100000 in
theorem repeat_any (w : World) (M : List Int) (n : Nat) (hM : ∀ x ∈ M, 0 ≤ x ∧ x ≤ 255) (h1 : 1 ≤ M.length) (hb : n * M.length ≤ 100000) (hn : n ≤ 100000) :
    Calls Try.prog 21 #[.string (strOf M), .int .i64 n] w (RetQ (.string (strOf (repL M n))) w none fun _ => True) := by
  have HM := Lib.hid hM
  clear hM
  go_enter Try.func21, Try.ntmps21
  go_wp2
  go_loopw [5, 6] (fun b i wr => ∃ k : Nat, k ≤ n ∧ BL wr w.heap.size b (repL M k) ∧ i = .int .i64 k ∧ w.grownBy wr none) (fun _ i _ => n - (intOf i).toNat)
  case atStart => exact ⟨0, Nat.zero_le _, BL.nil _ _, rfl, gb_refl _ _⟩
  case round =>
    obtain ⟨k, hk, hbl, rfl, hg⟩ := hrel
    have BV := Lib.hid hbl
    have GW := Lib.hid hg
    clear hbl hg
    by_cases hlt : k < n
    · have hi : (k : Int) < n := by omega
      have hle : (repL M k).length + M.length ≤ 100000 := by
        have e : (repL M k).length + M.length = (k + 1) * M.length := by rw [repL_len, Nat.succ_mul]
        rw [e]
        exact Nat.le_trans (Nat.mul_le_mul_right _ hlt) hb
      go_wp2_with (at_builtin; refine push_str rfl _ _ rfl w.heap.size _ _ rfl BV.out M rfl HM.out h1 (by omega) GW.out.size ?_)
      intro V2 w2 o2 g2
      have G2 := Lib.hid (gb_own GW.out BV.out (Nat.le_refl _) g2)
      have O2 := Lib.hid o2
      clear o2 g2
      go_wp2
      go_roundw
      case rel => exact ⟨k + 1, by omega, O2.out, by go_num, G2.out⟩
      case measure => simp [intOf]; omega
    · have hke : k = n := by omega
      subst hke
      obtain ⟨a, c, rfl⟩ := BV.out.shape
      have hcs := conv_str wr a _ c _ BV.out.slr
      go_wp2
      go_ret
      exact ⟨rfl, GW.out, trivial⟩
end Go.Proofs.Ytmbdpiffdiiggaa
