/- The walk of patchbayref02's Unpack; no condition but sizes. -/
import Derived.Test.YtiphcknnljjanaaIoRg
namespace Go.Proofs.Ytiphcknnljjanaa
open Go.RowKit
set_option linter.unusedVariables false

/-- What the round holds: the reader in its block, its bytes, the numbers so far. -/
def UIn (w : World) (rb : Nat) (ax : Option Addr) (cx : Nat) (bs : List Int) (pos : Nat) (U : Value) (us : List Int) (w' : World) : Prop :=
  IsB w' rb 49 #[.slice ax bs.length cx, .int .i64 pos] ∧ w'.ownsRow w.heap.size 5 1 (.slice ax bs.length cx) bs.length (bs.map (Value.int .u8)) ∧ w'.ownsRow w.heap.size 22 1 U us.length (us.map (Value.int .u32)) ∧ w.grownBy w' none
theorem UIn.step {w w1 w2 : World} {rb : Nat} {ax : Option Addr} {cx : Nat} {bs : List Int} {pos : Nat} {U : Value} {us : List Int} (h : UIn w rb ax cx bs pos U us w1) (k : w1.grownBy w2 none) : UIn w rb ax cx bs pos U us w2 :=
  ⟨h.1.keep0 k, own_keep0 h.2.1 k, own_keep0 h.2.2.1 k, gb_trans h.2.2.2 k⟩
theorem UIn.turn {w w1 : World} {rb : Nat} {ax : Option Addr} {cx : Nat} {bs : List Int} {pos : Nat} {U : Value} {us : List Int} (h : UIn w rb ax cx bs pos U us w1) (hx : w.heap.size ≤ rb) (pos2 : Nat) :
    UIn w rb ax cx bs pos2 U us ((w1.setCell ⟨rb, 0, none⟩ (.slice ax bs.length cx)).setCell ⟨rb, 1, none⟩ (.int .i64 pos2)) := by
  have g0 := gb_set w1 rb 0 (.slice ax bs.length cx)
  have n0 := h.1.set 0 (.slice ax bs.length cx)
  have g1 := gb_set (w1.setCell ⟨rb, 0, none⟩ (.slice ax bs.length cx)) rb 1 (.int .i64 pos2)
  have n1 := n0.set 1 (.int .i64 pos2)
  exact ⟨n1, own_keepS (own_keepS h.2.1 g0 h.1 (by decide)) g1 n0 (by decide), own_keepS (own_keepS h.2.2.1 g0 h.1 (by decide)) g1 n0 (by decide), gb_set2 h.2.2.2 hx⟩
theorem us_step {w w1 w2 : World} {rb : Nat} {ax : Option Addr} {cx : Nat} {bs : List Int} {pos : Nat} {U : Value} {us : List Int} {p : Addr} {x y z : Value}
    (h : w1.cell? ⟨rb, 0, none⟩ = some x ∧ w1.cell? ⟨rb, 1, none⟩ = some y ∧ w1.cell? p = some z ∧ UIn w rb ax cx bs pos U us w1) (k : w1.grownBy w2 none) :
    w2.cell? ⟨rb, 0, none⟩ = some x ∧ w2.cell? ⟨rb, 1, none⟩ = some y ∧ w2.cell? p = some z ∧ UIn w rb ax cx bs pos U us w2 :=
  ⟨cell_grown h.1 k, cell_grown h.2.1 k, cell_grown h.2.2.1 k, h.2.2.2.step k⟩
theorem us_row {w w1 : World} {rb : Nat} {ax : Option Addr} {cx : Nat} {bs : List Int} {pos : Nat} {U : Value} {us : List Int} {p1 p2 p3 : Prop} (h : p1 ∧ p2 ∧ p3 ∧ UIn w rb ax cx bs pos U us w1) : w1.ownsRow w.heap.size 5 1 (.slice ax bs.length cx) bs.length (bs.map (Value.int .u8)) := h.2.2.2.2.1

theorem one_cell (w : World) (t : TypeId) (x : Value) (n : Nat) (hn : n = w.heap.size) : ∀ (j : Nat) (u : Value), ([x] : List Value)[j]? = some u → (w.alloc (.cells #[x] t)).cell? ((⟨n, 0, none⟩ : Addr).add j) = some u := by
  intro j u hj
  subst hn
  match j, hj with
  | 0, hj => simp at hj; subst hj; simp [Addr.add]
theorem one_one (x : Value) (h : x.oneCell' = true) : ∀ u ∈ [x], u.oneCell' = true := by
  intro u hu; simp at hu; subst hu; exact h
theorem alloc_isb {w w2 : World} {cs : Array Value} {t : TypeId} (g : (w.drew.alloc (.cells cs t)).grownBy w2 none) : IsB w2 w.heap.size t cs := (IsB.new w.drew t cs).keep0 g
set_option maxRecDepth 100000 in
set_option maxHeartbeats 1000000 in
theorem runpack_run (w : World) (a : Option Addr) (len cap : Nat) (bs : List Int) (h : SlR w a len cap (bs.map (Value.int .u8))) (hb : ∀ b ∈ bs, 0 ≤ b ∧ b ≤ 255) (hn : bs.length ≤ 60000) (a2 : Option Addr) (cap2 : Nat) (ns : List Int)
    (h2 : SlR w a2 ns.length cap2 (ns.map (Value.int .i64))) (hnn : ns.length ≤ 1000) (er : Int) (pos0 : Nat) (us0 : List Int) (hq : upRun bs 0 [] ns = (er, pos0, us0)) :
    Calls Try.prog 61 #[.slice a len cap, .slice a2 ns.length cap2] w (fun e w' => ∃ v', e = .returned (.tuple #[v', .int .i64 (unpackR bs ns).1]) ∧ w.grownBy w' none ∧ w'.ownsRow w.heap.size 22 1 v' (unpackR bs ns).2.length ((unpackR bs ns).2.map (Value.int .u32))) := by
  obtain ⟨i0, hi, hz0, hz1, hz2⟩ := info_parts infoU32
  have HI := Lib.hid hi
  have HQ := Lib.hid hq
  have PR := Lib.hid (show unpackR bs ns = if er = 0 then if pos0 < 8 * bs.length then (4, []) else (0, us0) else (er, []) by unfold unpackR; rw [hq])
  have HN := Lib.hid (rnew_any w a len cap bs h hn)
  clear hq hi
  go_enter Try.func61, Try.ntmps61
  go_wp2_with fail
  refine HN.out.mono ?_
  rintro e w1 ⟨ax, cx, rfl, g1, o1, _⟩
  have UI := Lib.hid (show UIn w w1.heap.size ax cx bs 0 (.slice none 0 0) [] (w1.alloc (.cells #[.slice ax bs.length cx, .int .i64 0] 49)) from ⟨IsB.new w1 _ _, o1.alloc _, World.ownsRow_nil _ _ _ _, gb_trans g1 (gb_alloc _ _ _)⟩)
  have RB := Lib.hid (show w.heap.size ≤ w1.heap.size from g1.size)
  clear g1 o1 HN
  go_wp2_with fail
  generalize w1.heap.size = rb at *
  go_loopw [7, 8] (fun u i wr => ∃ (k pos : Nat) (us : List Int), k ≤ ns.length ∧ i = .int .i64 k ∧ pos ≤ 8 * bs.length ∧ UIn w rb ax cx bs pos u us wr ∧ upRun bs pos us (ns.drop k) = (er, pos0, us0) ∧ us.length = k) (fun _ i _ => ns.length - (intOf i).toNat)
  case atStart => exact ⟨0, 0, [], Nat.zero_le _, rfl, Nat.zero_le _, UI.out, HQ.out, rfl⟩
  case round =>
    obtain ⟨k, pos, us, hk, rfl, hp, hu, hq1, hl1⟩ := hrel
    clear UI
    obtain ⟨au, cu, rfl⟩ := own_shape hu.2.2.1
    have P := Lib.hid hu
    have HQ1 := Lib.hid hq1
    have HP := Lib.hid hp
    have HL1 := Lib.hid hl1
    clear hp hq1 hl1 hu
    by_cases hlt : k < ns.length
    · cases a2 with
      | none => exact absurd (h2.2.1 rfl).1 (by omega)
      | some ad2 =>
        have hkk : (k : Int) < ns.length := by omega
        have hc2 := (h2.keep0 P.out.2.2.2).cellAt k (by omega)
        have hz := HQ1.out
        rw [drop_at ns k hlt] at hz
        generalize ns.getD k 0 = nk at *
        obtain ⟨e1, v1, p1, hs⟩ : ∃ e1 v1 p1, rdStep bs pos nk = (e1, v1, p1) := ⟨_, _, _, rfl⟩
        have hp2 := rdStep_pos bs pos nk HP.out
        rw [upRun] at hz
        rw [hs] at hp2 hz
        have HS := Lib.hid hs
        have HZ := Lib.hid hz
        have HP2 := Lib.hid hp2
        have HB := Lib.hid (show wr.cell? ⟨rb, 0, none⟩ = some (.slice ax bs.length cx) ∧ wr.cell? ⟨rb, 1, none⟩ = some (.int .i64 pos) ∧ wr.cell? (ad2.add k) = some (.int .i64 nk) ∧ UIn w rb ax cx bs pos (.slice au us.length cu) us wr from ⟨P.out.1.cell 0, P.out.1.cell 1, hc2, P.out⟩)
        clear hz hs hp2 hc2 P HQ1
        go_wp2_with fail
        have hb0 := HB.out
        go_region_held3 (fun w' => w'.cell? ⟨rb, 0, none⟩ = some (.slice ax bs.length cx) ∧ w'.cell? ⟨rb, 1, none⟩ = some (.int .i64 pos) ∧ w'.cell? (ad2.add k) = some (.int .i64 nk) ∧ UIn w rb ax cx bs pos (.slice au us.length cu) us w') (first | exact us_step (by assumption) (by assumption) | exact us_step (by assumption) (gb_alloc _ _ _) | exact us_step hb0 (gb_drew _ _) | exact us_step hb0 (gb_trans (gb_drew _ _) (gb_trans (by assumption) (gb_alloc _ _ _))) | exact us_step hb0 (gb_trans (gb_drew _ _) (gb_set2 (gb_trans (gb_alloc _ _ _) (by assumption)) (Nat.le_refl _))) | exact hb0 | assumption)
          (first | (go_at_call 45; refine (rread_any _ w.heap.size ax cx bs pos nk (us_row (by assumption)) hb hn HP.out e1 v1 p1 HS.out).mono ?_; rintro e w' ⟨rfl, g⟩; (first | (have yb := alloc_two g; obtain ⟨y0, y1, z0, z1⟩ := yb) | skip)))
        · rename_i hs
          have YB := Lib.hid (IsB.new w' 49 #[.slice ax bs.length cx, .int .i64 p1])
          clear g
          generalize w'.alloc (.cells #[.slice ax bs.length cx, .int .i64 p1] 49) = w6 at *
          generalize w'.heap.size = yb at *
          have PF := Lib.hid hs.2.2.2
          have c0 := hs.1
          have c1 := hs.2.1
          have f0 := PF.out.1.free 0
          have f1 := PF.out.1.free 1
          have y0 : w6.cell? ⟨yb, 0, none⟩ = some (.slice ax bs.length cx) := YB.out.cell 0
          have y1 : w6.cell? ⟨yb, 1, none⟩ = some (.int .i64 p1) := YB.out.cell 1
          clear hs hb0 HB
          by_cases he : e1 = 0
          · subst he
            have HZ3 := Lib.hid (show upRun bs p1 (us ++ [v1]) (ns.drop (k + 1)) = (er, pos0, us0) by have := HZ.out; rwa [if_pos rfl] at this)
            have PT := Lib.hid (PF.out.turn RB.out p1)
            have PU := Lib.hid (PT.out.step (gb_alloc _ (.cells #[.int .u32 v1] 22) none))
            have LE := Lib.hid (show us.length ≤ 1000 by rw [HL1.out]; omega)
            clear PF PT
            go_wp2_with (at_builtin; refine wpList_append_own _ rfl _ _ 76 rfl w.heap.size 22 i0 (.int .u32 0) 1 4 Try.underlying76 HI.out hz0 hz1 hz2 rfl (by decide) _ us.length (us.map (Value.int .u32)) rfl PU.out.2.2.1 ⟨w6.heap.size, 0, none⟩ 1 1 [.int .u32 v1] rfl rfl (one_cell _ _ _ _ (by simp)) (one_one _ rfl) ?c3 ?c4 ?c5 ?_)
            case c3 => have := LE.out; unfold maxLen; omega
            case c4 => have := LE.out; omega
            case c5 => have k := PU.out.2.2.2.size; first | exact k | simpa using k
            intro v' w5 hown5 hgrow _
            have UF := Lib.hid (show UIn w rb ax cx bs p1 v' (us ++ [v1]) w5 from ⟨PU.out.1.keep hgrow (fun e => own_ne PU.out.2.2.1 PU.out.1 (by decide) e.symm), PU.out.2.1.kept hgrow (own_two PU.out.2.1 PU.out.2.2.1 (by decide)), by simpa using hown5, gb_row PU.out.2.2.2 hgrow PU.out.2.2.1⟩)
            clear hown5 hgrow PU
            go_wp2
            go_roundw
            case rel => exact ⟨k + 1, p1, us ++ [v1], by omega, by go_num, HP2.out, UF.out, HZ3.out, by rw [List.length_append, HL1.out]; rfl⟩
            case measure => simp [intOf]; omega
          · have HZ3 := Lib.hid (show e1 = er by have := HZ.out; rw [if_neg he] at this; simpa using congrArg (·.1) this)
            have hne : (e1 != 0) = true := by simpa using he
            have PR2 := Lib.hid (show unpackR bs ns = (e1, []) by have := PR.out; rw [← HZ3.out, if_neg he] at this; exact this)
            clear he
            go_wp2
            go_ret2
            rw [PR2.out]
            exact ⟨_, rfl, PF.out.2.2.2, World.ownsRow_nil _ _ _ _⟩
        · rename_i hs
          have YB := Lib.hid (show IsB ((w'.setCell ⟨wr.heap.size, 0, none⟩ (.slice ax bs.length cx)).setCell ⟨wr.heap.size, 1, none⟩ (.int .i64 p1)) wr.heap.size 49 #[.slice ax bs.length cx, .int .i64 p1] from ((alloc_isb g).set 0 (.slice ax bs.length cx)).set 1 (.int .i64 p1))
          clear g y0 y1 z0 z1
          generalize (w'.setCell ⟨wr.heap.size, 0, none⟩ (.slice ax bs.length cx)).setCell ⟨wr.heap.size, 1, none⟩ (.int .i64 p1) = w6 at *
          generalize wr.heap.size = yb at *
          have PF := Lib.hid hs.2.2.2
          have c0 := hs.1
          have c1 := hs.2.1
          have f0 := PF.out.1.free 0
          have f1 := PF.out.1.free 1
          have y0 : w6.cell? ⟨yb, 0, none⟩ = some (.slice ax bs.length cx) := YB.out.cell 0
          have y1 : w6.cell? ⟨yb, 1, none⟩ = some (.int .i64 p1) := YB.out.cell 1
          clear hs hb0 HB
          by_cases he : e1 = 0
          · subst he
            have HZ3 := Lib.hid (show upRun bs p1 (us ++ [v1]) (ns.drop (k + 1)) = (er, pos0, us0) by have := HZ.out; rwa [if_pos rfl] at this)
            have PT := Lib.hid (PF.out.turn RB.out p1)
            have PU := Lib.hid (PT.out.step (gb_alloc _ (.cells #[.int .u32 v1] 22) none))
            have LE := Lib.hid (show us.length ≤ 1000 by rw [HL1.out]; omega)
            clear PF PT
            go_wp2_with (at_builtin; refine wpList_append_own _ rfl _ _ 76 rfl w.heap.size 22 i0 (.int .u32 0) 1 4 Try.underlying76 HI.out hz0 hz1 hz2 rfl (by decide) _ us.length (us.map (Value.int .u32)) rfl PU.out.2.2.1 ⟨w6.heap.size, 0, none⟩ 1 1 [.int .u32 v1] rfl rfl (one_cell _ _ _ _ (by simp)) (one_one _ rfl) ?d3 ?d4 ?d5 ?_)
            case d3 => have := LE.out; unfold maxLen; omega
            case d4 => have := LE.out; omega
            case d5 => have k := PU.out.2.2.2.size; first | exact k | simpa using k
            intro v' w5 hown5 hgrow _
            have UF := Lib.hid (show UIn w rb ax cx bs p1 v' (us ++ [v1]) w5 from ⟨PU.out.1.keep hgrow (fun e => own_ne PU.out.2.2.1 PU.out.1 (by decide) e.symm), PU.out.2.1.kept hgrow (own_two PU.out.2.1 PU.out.2.2.1 (by decide)), by simpa using hown5, gb_row PU.out.2.2.2 hgrow PU.out.2.2.1⟩)
            clear hown5 hgrow PU
            go_wp2
            go_roundw
            case rel => exact ⟨k + 1, p1, us ++ [v1], by omega, by go_num, HP2.out, UF.out, HZ3.out, by rw [List.length_append, HL1.out]; rfl⟩
            case measure => simp [intOf]; omega
          · have HZ3 := Lib.hid (show e1 = er by have := HZ.out; rw [if_neg he] at this; simpa using congrArg (·.1) this)
            have hne : (e1 != 0) = true := by simpa using he
            have PR2 := Lib.hid (show unpackR bs ns = (e1, []) by have := PR.out; rw [← HZ3.out, if_neg he] at this; exact this)
            clear he
            go_wp2
            go_ret2
            rw [PR2.out]
            exact ⟨_, rfl, PF.out.2.2.2, World.ownsRow_nil _ _ _ _⟩
    · have hkk : ¬ (k : Int) < ns.length := by omega
      have HZ3 := Lib.hid (show 0 = er ∧ pos = pos0 ∧ us = us0 by have := HQ1.out; rw [List.drop_eq_nil_of_le (by omega)] at this; simpa [upRun] using this)
      have PR2 := Lib.hid (show unpackR bs ns = if pos < 8 * bs.length then (4, []) else (0, us) by have := PR.out; rw [← HZ3.out.1, if_pos rfl, ← HZ3.out.2.1, ← HZ3.out.2.2] at this; exact this)
      have c0 : wr.cell? ⟨rb, 0, none⟩ = some (.slice ax bs.length cx) := P.out.1.cell 0
      have c1 : wr.cell? ⟨rb, 1, none⟩ = some (.int .i64 pos) := P.out.1.cell 1
      have HR := Lib.hid (rrem_any wr ax bs.length cx pos hn HP.out)
      by_cases hm : pos < 8 * bs.length
      · have PR3 := Lib.hid (show unpackR bs ns = (4, []) by have := PR2.out; rwa [if_pos hm] at this)
        have hgt : (0 : Int) < 8 * (bs.length : Int) - pos := by omega
        go_wp2_with fail
        refine HR.out.mono ?_
        rintro e w5 ⟨rfl, g5, _⟩
        have UF := Lib.hid (P.out.step g5)
        clear g5 hm
        go_wp2
        go_ret2
        rw [PR3.out]
        exact ⟨_, rfl, UF.out.2.2.2, World.ownsRow_nil _ _ _ _⟩
      · have PR3 := Lib.hid (show unpackR bs ns = (0, us) by have := PR2.out; rwa [if_neg hm] at this)
        have hgt : ¬ (0 : Int) < 8 * (bs.length : Int) - pos := by omega
        go_wp2_with fail
        refine HR.out.mono ?_
        rintro e w5 ⟨rfl, g5, _⟩
        have UF := Lib.hid (P.out.step g5)
        clear g5 hm
        go_wp2
        go_ret2
        rw [PR3.out]
        exact ⟨_, rfl, UF.out.2.2.2, UF.out.2.2.1⟩
theorem runpack_any (w : World) (a : Option Addr) (len cap : Nat) (bs : List Int) (h : SlR w a len cap (bs.map (Value.int .u8))) (hb : ∀ b ∈ bs, 0 ≤ b ∧ b ≤ 255) (hn : bs.length ≤ 60000) (a2 : Option Addr) (len2 cap2 : Nat) (ns : List Int)
    (h2 : SlR w a2 len2 cap2 (ns.map (Value.int .i64))) (hnn : ns.length ≤ 1000) :
    Calls Try.prog 61 #[.slice a len cap, .slice a2 len2 cap2] w (fun e w' => ∃ v', e = .returned (.tuple #[v', .int .i64 (unpackR bs ns).1]) ∧ w.grownBy w' none ∧ w'.ownsRow w.heap.size 22 1 v' (unpackR bs ns).2.length ((unpackR bs ns).2.map (Value.int .u32))) := by
  have e2 : ns.length = len2 := by simpa using h2.1
  subst e2
  exact runpack_run w a len cap bs h hb hn a2 cap2 ns h2 hnn _ _ _ rfl
end Go.Proofs.Ytiphcknnljjanaa
