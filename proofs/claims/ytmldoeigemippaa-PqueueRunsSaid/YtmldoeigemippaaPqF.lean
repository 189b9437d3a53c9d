/- The queue: Push and Pop. -/
import Derived.Test.YtmldoeigemippaaPqE
namespace Go.Proofs.Ytmldoeigemippaa
open Go.RowKit
set_option linter.unusedVariables false

/-- E, but x at turn p. -/
def upd (E : Int → Int) (p x : Int) (t : Int) : Int := if t = p then x else E t
theorem it_upd (E : Int → Int) (p x : Int) (H : List Int) (h : ∀ c ∈ H, tC c ≠ p) : H.flatMap (itC (upd E p x)) = H.flatMap (itC E) := by
  induction H with
  | nil => rfl
  | cons a s ih =>
    rw [List.flatMap_cons, List.flatMap_cons, ih fun c hc => h c (List.mem_cons_of_mem _ hc)]
    have : upd E p x (tC a) = E (tC a) := if_neg (h a List.mem_cons_self)
    unfold itC
    rw [this]
theorem HQ.upd {W : World} {hb o : Nat} {t : TypeId} {cs : Array Value} {base : Nat} {V : Value} {E : Int → Int} {H : List Int} {w : World} (h : HQ W hb o t cs base V E H w) (p x : Int) (hp : ∀ c ∈ H, tC c ≠ p) : HQ W hb o t cs base V (upd E p x) H w :=
  ⟨h.var, h.at_, by unfold PL; rw [it_upd E p x H hp]; exact h.row, h.grown, h.lowv, h.lowr⟩
theorem code_k (key p : Int) (h0 : 0 ≤ p) (h1 : p < 18446744073709551616) : kC (key * 18446744073709551616 + p) = key ∧ tC (key * 18446744073709551616 + p) = p := by unfold kC tC; omega
set_option maxRecDepth 100000 in
theorem push_no (w : World) (v : Value) (key x : Int) (h : Calls Try.prog 20 #[v] w (RetS (.bool false) w)) : Calls Try.prog 11 #[v, .int .i64 key, .int .i64 x] w (RetS (.int .i64 1) w) := by
  have MD := Lib.hid h
  clear h
  go_enter Try.func11, Try.ntmps11
  go_wp2_with fail
  refine MD.out.mono ?_
  rintro e w1 ⟨rfl, rfl⟩
  go_wp2
  go_ret
  exact ⟨rfl, rfl⟩
set_option maxRecDepth 100000 in
theorem push_full (W w : World) (q s : Nat) (cap p : Int) (V : Value) (E : Int → Int) (H : List Int) (key x : Int) (h : QS W q s cap p V E H w) (hf : cap ≤ H.length) : Calls Try.prog 11 #[.pointer (some ⟨q, 0, none⟩), .int .i64 key, .int .i64 x] w (RetV (.int .i64 13) w) := by
  obtain ⟨a, c, rfl⟩ := h.hq.row.shape
  have MD := Lib.hid (made_yes w q s h.qv)
  have c0 : w.cell? ⟨q, 0, none⟩ = some (.pointer (some ⟨s, 0, none⟩)) := h.qv.cell 0
  have c2 : w.cell? ⟨s, 2, none⟩ = some (.slice a H.length c) := h.hq.var.cell 2
  have c3 : w.cell? ⟨s, 0, none⟩ = some (.int .i64 cap) := h.hq.var.cell 0
  clear h
  go_enter Try.func11, Try.ntmps11
  go_wp2_with fail
  refine MD.out.mono ?_
  rintro e w1 ⟨rfl, rfl⟩
  go_wp2
  go_quiet (fail)
  go_wp2
  go_ret
  exact ⟨rfl, gb_drewN _ _ _⟩
set_option maxRecDepth 100000 in
set_option maxHeartbeats 4000000 in
theorem push_ok (W w : World) (q s : Nat) (cap p : Int) (V : Value) (E : Int → Int) (H : List Int) (key x : Int) (h : QS W q s cap p V E H w) (hf : (H.length : Int) < cap) (hn : H.length ≤ 99999) (hp : ∀ c ∈ H, tC c ≠ p) (p0 : 0 ≤ p) (p1 : p < 1000000000000) :
    Calls Try.prog 11 #[.pointer (some ⟨q, 0, none⟩), .int .i64 key, .int .i64 x] w fun e w' => e = .returned (.int .i64 0) ∧ ∃ V', QS W q s cap (p + 1) V' (upd E p x) (pushL H (key * 18446744073709551616 + p)) w' ∧ Fr w w' s V.ownBlock := by
  obtain ⟨a, c, rfl⟩ := h.hq.row.shape
  have HH := Lib.hid h
  have MD := Lib.hid (made_yes w q s h.qv)
  have c0 : w.cell? ⟨q, 0, none⟩ = some (.pointer (some ⟨s, 0, none⟩)) := h.qv.cell 0
  have c2 : w.cell? ⟨s, 2, none⟩ = some (.slice a H.length c) := h.hq.var.cell 2
  have c3 : w.cell? ⟨s, 0, none⟩ = some (.int .i64 cap) := h.hq.var.cell 0
  have c1 : w.cell? ⟨s, 1, none⟩ = some (.int .u64 p) := h.hq.var.cell 1
  obtain ⟨k1, k2⟩ := code_k key p p0 (by omega)
  have PU := Lib.hid (fun w2 (g : w.grownBy w2 none) => push_heap W w2 s 2 _ _ _ _ (upd E p x) H (key * 18446744073709551616 + p) ((h.hq.keep0 g).upd p x hp) (by decide) hn (Nat.le_trans h.hq.grown.size g.size))
  rw [k1, k2, show upd E p x p = x from if_pos rfl] at PU
  generalize key * 18446744073709551616 + p = y at *
  have i1 : ¬ cap ≤ (H.length : Int) := by omega
  have hw1 : IntKind.u64.wrap (p + 1) = p + 1 := by rw [IntKind.wrap_u64]; omega
  clear h
  go_enter Try.func11, Try.ntmps11
  go_wp2_with fail
  refine MD.out.mono ?_
  rintro e w1 ⟨rfl, rfl⟩
  go_upto_region 4 with fail
  go_quiet (fail)
  go_upto_region 6 with fail
  have HC := Lib.hid c1
  have HP2 := Lib.hid hp
  clear c0 c2 c3 hp hf
  go_region_held3 (fun w' => w'.cell? ⟨s, 1, none⟩ = some (.int .u64 (p : Int)))
    (first
      | assumption
      | exact HC.out)
    (first
      | (go_at_call 21; refine (PU.out _ (by first | exact gb_drewN _ _ _ | exact gb_trans (gb_drewN _ _ _) (gb_drew _ _) | exact gb_drew _ _)).mono ?_; rintro e w' ⟨rfl, V', h', n', f'⟩; have c1' : w'.cell? ⟨s, 1, none⟩ = some (.int .u64 (p : Int)) := h'.var.cell 1))
  have cf := h'.var.free 1
  go_wp2
  go_ret
  refine ⟨rfl, V', ⟨?_, ⟨(h'.var.set 1 _), rfl, ?_, gb_put h'.grown HH.out.hq.lowv, h'.lowv, h'.lowr⟩, HH.out.lowq⟩, ?_⟩
  · exact (f'.isb (HH.out.qv.keep0 (by first | exact gb_drewN _ _ _ | exact gb_trans (gb_drewN _ _ _) (gb_drew _ _) | exact gb_drew _ _)) HH.out.ne HH.out.row_ne).set_far HH.out.ne 1 _
  · exact World.ownsRow.kept h'.row (gb_set _ _ _ _) (.inr (own_ne h'.row h'.var (by decide)))
  · exact (Fr.trans (Fr.step (Fr.refl w1 s _) (row := none) (by first | exact gb_drewN _ _ _ | exact gb_trans (gb_drewN _ _ _) (gb_drew _ _) | exact gb_drew _ _) (by intro q e; cases e)) f' (.inl rfl)).step (gb_set _ _ _ _) (by intro q e; injection e with e; exact .inl e.symm)
set_option maxRecDepth 100000 in
theorem pop_none (w : World) (v : Value) (h : Calls Try.prog 15 #[v] w (RetV (.tuple #[.int .i64 0, .int .i64 0, .bool false]) w)) : Calls Try.prog 13 #[v] w (RetV (.tuple #[.int .i64 0, .int .i64 0, .bool false]) w) := by
  have MD := Lib.hid h
  clear h
  go_enter Try.func13, Try.ntmps13
  go_wp2_with fail
  refine MD.out.mono ?_
  rintro e w1 ⟨rfl, g1⟩
  go_wp2
  (try simp only [Exit.inBlock, Exit.then])
  refine bodyPost_ret (v := .tuple #[.int .i64 0, .int .i64 0, .bool false]) (by rw [results3 rfl]; rfl) rfl ⟨rfl, g1⟩
set_option maxRecDepth 100000 in
set_option maxHeartbeats 4000000 in
theorem pop_some (W w : World) (q s : Nat) (cap p : Int) (V : Value) (E : Int → Int) (H : List Int) (h : QS W q s cap p V E H w) (h1 : 0 < H.length) (hn : H.length ≤ 100000) (hd : Dist H) :
    Calls Try.prog 13 #[.pointer (some ⟨q, 0, none⟩)] w fun e w' => e = .returned (.tuple #[.int .i64 (kC (H.getD 0 0)), .int .i64 (E (tC (H.getD 0 0))), .bool true]) ∧ ∃ V', QS W q s cap p V' E (popL H) w' ∧ Fr w w' s V.ownBlock := by
  have HH := Lib.hid h
  have PK := Lib.hid (peek_some W w q s cap p V E H h h1)
  have PO := Lib.hid (fun w2 (g : w.grownBy w2 none) => pop_any W w2 s 2 _ _ _ _ E H (h.hq.keep0 g) (by decide) h1 hn hd)
  have C := Lib.hid (fun w2 (g : w.grownBy w2 none) => ((h.qv.keep0 g).cell 0 : w2.cell? ⟨q, 0, none⟩ = some (.pointer (some ⟨s, 0, none⟩))))
  generalize H.getD 0 0 = x at *
  clear h
  go_enter Try.func13, Try.ntmps13
  go_wp2_with fail
  refine PK.out.mono ?_
  rintro e w1 ⟨rfl, g1⟩
  have c0 := C.out w1 g1
  go_wp2_with fail
  refine (PO.out w1 g1).mono ?_
  rintro e w2 ⟨rfl, V', h', n', f'⟩
  go_wp2
  (try simp only [Exit.inBlock, Exit.then])
  have f0 := (Fr.refl w s V.ownBlock).step g1 (by intro q e; cases e)
  refine bodyPost_ret (v := .tuple #[.int .i64 (kC x), .int .i64 (E (tC x)), .bool true]) (by rw [results3 rfl]; rfl) rfl ⟨rfl, V', ⟨f'.isb (HH.out.qv.keep0 g1) HH.out.ne HH.out.row_ne, h', HH.out.lowq⟩, f0.trans f' (.inl rfl)⟩
end Go.Proofs.Ytmldoeigemippaa
