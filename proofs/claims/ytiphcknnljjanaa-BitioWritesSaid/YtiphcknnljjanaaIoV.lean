/- The walks of bitio's Unpack; no condition but sizes: at most 1000 widths, 60000 bytes. -/
import Derived.Test.YtiphcknnljjanaaIoU
namespace Go.Proofs.Ytiphcknnljjanaa
open Go.RowKit
set_option linter.unusedVariables false

/-- The numbers read one after the other, up to the first error. -/
def upRun (bs : List Int) : Nat → List Int → List Int → Int × Nat × List Int
  | pos, us, [] => (0, pos, us)
  | pos, us, n :: t => if (rdStep bs pos n).1 = 0 then upRun bs (rdStep bs pos n).2.2 (us ++ [(rdStep bs pos n).2.1]) t else ((rdStep bs pos n).1, (rdStep bs pos n).2.2, us ++ [(rdStep bs pos n).2.1])
/-- What Unpack comes to: the error code and the numbers. -/
def unpackR (bs ns : List Int) : Int × List Int :=
  if (upRun bs 0 [] ns).1 = 0 then if (upRun bs 0 [] ns).2.1 < 8 * bs.length then (4, []) else (0, (upRun bs 0 [] ns).2.2) else ((upRun bs 0 [] ns).1, [])
theorem drop_at (ns : List Int) (k : Nat) (h : k < ns.length) : ns.drop k = ns.getD k 0 :: ns.drop (k + 1) := by
  rw [List.drop_eq_getElem_cons h]; simp [h]

set_option maxHeartbeats 1000000 in
theorem each_unpack (w0 w : World) (B r s br bu : Nat) (V : Value) (bs : List Int) (U : Value) (h : Upk w B r s br bu V bs 0 U []) (hB : B ≤ w.heap.size) (hb : ∀ b ∈ bs, 0 ≤ b ∧ b ≤ 255) (hn : bs.length ≤ 60000)
    (a2 : Option Addr) (cap2 : Nat) (ns : List Int) (h0 : Below w0.heap.size w0 w) (hb0 : w0.heap.size ≤ B) (hns : SlR w0 a2 ns.length cap2 (ns.map (Value.int .i64))) (hnn : ns.length ≤ 1000)
    (er : Int) (pos : Nat) (us : List Int) (hq : upRun bs 0 [] ns = (er, pos, us)) :
    Calls Try.prog 76 #[.func (.func 77) #[] #[.pointer (some ⟨br, 0, none⟩), .pointer (some ⟨bu, 0, none⟩)], .slice a2 ns.length cap2] w (UpQ er w B r s br bu V bs pos us) := by
  have HQ := Lib.hid hq
  clear hq
  go_enter Try.func76, Try.ntmps76
  go_wp2
  go_loopw [10] (fun i wr => ∃ (k p : Nat) (U' : Value) (u' : List Int), k ≤ ns.length ∧ i = .int .i64 k ∧ Upk wr B r s br bu V bs p U' u' ∧ p ≤ 8 * bs.length ∧ upRun bs p u' (ns.drop k) = (er, pos, us) ∧ u'.length = k ∧ Below B w wr) (fun i _ => ns.length - (intOf i).toNat)
  case atStart => exact ⟨0, 0, U, [], Nat.zero_le _, rfl, h, Nat.zero_le _, HQ.out, rfl, Below.refl _ _⟩
  case round =>
    obtain ⟨k, p, U', u', hk, rfl, hw1, hp1, hq1, hl1, hg⟩ := hrel
    have HB0 := Lib.hid (show Below w0.heap.size w0 wr from h0.trans (hg.mono hb0))
    have HW1 := Lib.hid hw1
    have HQ1 := Lib.hid hq1
    have HG := Lib.hid hg
    have HL1 := Lib.hid hl1
    clear hw1 hq1 hg hl1
    by_cases hlt : k < ns.length
    · cases a2 with
      | none => exact absurd (hns.2.1 rfl).1 (by omega)
      | some ad2 =>
        have hc2 := (hns.below HB0.out).cellAt k (by omega)
        have hz := HQ1.out
        rw [drop_at ns k hlt] at hz
        have HZ := Lib.hid hz
        clear hz
        generalize ns.getD k 0 = nk at *
        obtain ⟨e1, v1, p1, hs⟩ : ∃ e1 v1 p1, rdStep bs p nk = (e1, v1, p1) := ⟨_, _, _, rfl⟩
        have hp2 := rdStep_pos bs p nk hp1
        have hz := HZ.out
        rw [upRun] at hz
        rw [hs] at hp2 hz
        have HZ2 := Lib.hid hz
        have HM := Lib.hid (closure_unpack wr B r s br bu V bs p U' u' HW1.out (by have := HG.out.size; omega) hb hn hp1 (by rw [HL1.out]; omega) k nk e1 v1 p1 hs)
        have HP2 := Lib.hid hp2
        clear hz hs hp2
        by_cases he : e1 = 0
        · subst he
          have HZ3 := Lib.hid (show upRun bs p1 (u' ++ [v1]) (ns.drop (k + 1)) = (er, pos, us) by have := HZ2.out; rwa [if_pos rfl] at this)
          go_wp2_with fail
          refine HM.out.mono ?_
          rintro e w5 ⟨rfl, q1, U5, q2⟩
          have Q1 := Lib.hid q1
          have Q2 := Lib.hid q2
          clear q1 q2
          go_wp2
          go_roundw
          case rel => exact ⟨k + 1, p1, U5, u' ++ [v1], by omega, by go_num, Q2.out, HP2.out, HZ3.out, by rw [List.length_append, HL1.out]; rfl, HG.out.trans Q1.out⟩
          case measure => simp [intOf]; omega
        · have HZ3 := Lib.hid (show e1 = er ∧ p1 = pos ∧ u' ++ [v1] = us by have := HZ2.out; rw [if_neg he] at this; simpa using this)
          have hne : (e1 != 0) = true := by simpa using he
          clear he
          go_wp2_with fail
          refine HM.out.mono ?_
          rintro e w5 ⟨rfl, q1, U5, q2⟩
          have Q1 := Lib.hid q1
          have Q2 := Lib.hid q2
          clear q1 q2
          go_wp2
          go_ret
          exact ⟨ret_i HZ3.out.1, HG.out.trans Q1.out, U5, by rw [← HZ3.out.2.1, ← HZ3.out.2.2]; exact Q2.out⟩
    · have HZ3 := Lib.hid (show 0 = er ∧ p = pos ∧ u' = us by have := HQ1.out; rw [List.drop_eq_nil_of_le (by omega)] at this; simpa [upRun] using this)
      go_wp2
      go_ret
      exact ⟨ret_i HZ3.out.1, HG.out, U', by rw [← HZ3.out.2.1, ← HZ3.out.2.2]; exact HW1.out⟩

/-- The call returns numbers of its own and an error code. -/
def RetU (er : Int) (us : List Int) (w : World) (e : Ending) (w' : World) : Prop :=
  ∃ v', e = .returned (.tuple #[v', .int .i64 er]) ∧ Below w.heap.size w w' ∧ w'.ownsRow w.heap.size 22 1 v' us.length (us.map (Value.int .u32))
theorem RetU.nil {er : Int} {w w' : World} {v : Value} (h : Below w.heap.size w w') (hv : v = .int .i64 er) : RetU er [] w (.returned (.tuple #[.slice none 0 0, v])) w' := by
  subst hv; exact ⟨_, rfl, h, World.ownsRow_nil _ _ _ _⟩
theorem upRun_pos (bs : List Int) (pos : Nat) (us ns : List Int) (h : pos ≤ 8 * bs.length) : (upRun bs pos us ns).2.1 ≤ 8 * bs.length := by
  induction ns generalizing pos us with
  | nil => exact h
  | cons n t ih =>
    rw [upRun]
    split
    · exact ih _ _ (rdStep_pos bs pos n h)
    · exact rdStep_pos bs pos n h

set_option maxRecDepth 100000 in
set_option maxHeartbeats 1000000 in
theorem unpack_run (w : World) (a : Option Addr) (len cap : Nat) (bs : List Int) (h : SlR w a len cap (bs.map (Value.int .u8))) (hb : ∀ b ∈ bs, 0 ≤ b ∧ b ≤ 255) (hn : bs.length ≤ 60000) (a2 : Option Addr) (cap2 : Nat) (ns : List Int)
    (h2 : SlR w a2 ns.length cap2 (ns.map (Value.int .i64))) (hnn : ns.length ≤ 1000) (er : Int) (pos : Nat) (us : List Int) (hq : upRun bs 0 [] ns = (er, pos, us)) (hpos : pos ≤ 8 * bs.length) (er2 : Int) (out : List Int)
    (hc : (er ≠ 0 ∧ er2 = er ∧ out = []) ∨ (er = 0 ∧ pos < 8 * bs.length ∧ er2 = 4 ∧ out = []) ∨ (er = 0 ∧ ¬ pos < 8 * bs.length ∧ er2 = 0 ∧ out = us)) :
    Calls Try.prog 60 #[.slice a len cap, .slice a2 ns.length cap2] w (RetU er2 out w) := by
  have HC := Lib.hid hc
  have HN := Lib.hid (newReader_any w a len cap bs h hn)
  clear hc
  go_enter Try.func60, Try.ntmps60
  go_wp2_with fail
  refine HN.out.mono ?_
  rintro e w1 ⟨r, s, V, rfl, g1, q1, _, _, ls⟩
  have z1 := g1.size
  have b1 : Below w.heap.size w w1 := (Below.refl _ _).grown g1 (Nat.le_refl _) (by intro k hk; cases hk)
  have g2 := gb_trans (gb_alloc w1 (.cells #[.pointer (some ⟨r, 0, none⟩)] 46) none) (gb_alloc (w1.alloc (.cells #[.pointer (some ⟨r, 0, none⟩)] 46)) (.cells #[.slice none 0 0] 76) none)
  have hsz : (w1.alloc (.cells #[.pointer (some ⟨r, 0, none⟩)] 46)).heap.size = w1.heap.size + 1 := by simp
  have vu := IsB.new (w1.alloc (.cells #[.pointer (some ⟨r, 0, none⟩)] 46)) 76 #[.slice none 0 0]
  rw [hsz] at vu
  have UP : Upk ((w1.alloc (.cells #[.pointer (some ⟨r, 0, none⟩)] 46)).alloc (.cells #[.slice none 0 0] 76)) w.heap.size r s w1.heap.size (w1.heap.size + 1) V bs 0 (.slice none 0 0) [] :=
    ⟨q1.keep0 g2, (IsB.new w1 _ _).alloc _, vu, World.ownsRow_nil _ _ _ _, ls, by omega⟩
  have b2 := b1.grown g2 z1 (by intro k hk; cases hk)
  have HM := Lib.hid (each_unpack w _ w.heap.size r s w1.heap.size (w1.heap.size + 1) V bs _ UP b2.size hb hn a2 cap2 ns b2 (Nat.le_refl _) h2 hnn er pos us hq)
  have HB2 := Lib.hid b2
  clear g1 q1 g2 vu UP b1 b2 ls hsz hq
  go_wp2_with fail
  refine HM.out.mono ?_
  rintro e w3 ⟨rfl, q3, U, q4⟩
  have HB3 := Lib.hid (HB2.out.trans q3)
  have HQ4 := Lib.hid q4
  have c3 : w3.cell? ⟨w1.heap.size, 0, none⟩ = some (.pointer (some ⟨r, 0, none⟩)) := q4.vr.cell 0
  obtain ⟨a5, c5, rfl⟩ := own_shape q4.own
  clear q3 q4 HM
  by_cases he : er = 0
  · subst he
    have HR := Lib.hid (Remaining_any w3 _ _ _ _ _ _ HQ4.out.rd hn hpos)
    by_cases hm : pos < 8 * bs.length
    · have HE := Lib.hid (show er2 = 4 ∧ out = [] by
        rcases HC.out with ⟨k, _⟩ | ⟨_, _, k1, k2⟩ | ⟨_, k, _⟩
        · exact absurd rfl k
        · exact ⟨k1, k2⟩
        · exact absurd hm k)
      have hgt : (0 : Int) < (bs.length : Int) * 8 - pos := by omega
      go_wp2_with fail
      refine HR.out.mono ?_
      rintro e w5 ⟨rfl, g5, _⟩
      have HG5 := Lib.hid g5
      clear g5
      go_wp2
      go_ret2
      rw [HE.out.1, HE.out.2]
      exact RetU.nil (HB3.out.grown HG5.out HB3.out.size (by intro k hk; cases hk)) rfl
    · have HE := Lib.hid (show er2 = 0 ∧ out = us by
        rcases HC.out with ⟨k, _⟩ | ⟨_, k, _⟩ | ⟨_, _, k1, k2⟩
        · exact absurd rfl k
        · exact absurd k hm
        · exact ⟨k1, k2⟩)
      have hgt : ¬ (0 : Int) < (bs.length : Int) * 8 - pos := by omega
      go_wp2_with fail
      refine HR.out.mono ?_
      rintro e w5 ⟨rfl, g5, _⟩
      have c7 : w5.cell? ⟨w1.heap.size + 1, 0, none⟩ = some (.slice a5 us.length c5) := (HQ4.out.vu.keep0 g5).cell 0
      have HG5 := Lib.hid g5
      clear g5
      go_wp2
      go_ret2
      refine ⟨.slice a5 us.length c5, ?_, HB3.out.grown HG5.out HB3.out.size (by intro k hk; cases hk), ?_⟩
      · rw [HE.out.1]; rfl
      · rw [HE.out.2]; exact own_keep0 HQ4.out.own HG5.out
  · have HE := Lib.hid (show er2 = er ∧ out = [] by
      rcases HC.out with ⟨_, k⟩ | ⟨k, _⟩ | ⟨k, _⟩
      · exact k
      · exact absurd k he
      · exact absurd k he)
    have hne : (er != 0) = true := by simpa using he
    clear he
    go_wp2
    go_ret2
    rw [HE.out.1, HE.out.2]
    exact RetU.nil HB3.out rfl
theorem unpack_any (w : World) (a : Option Addr) (len cap : Nat) (bs : List Int) (h : SlR w a len cap (bs.map (Value.int .u8))) (hb : ∀ b ∈ bs, 0 ≤ b ∧ b ≤ 255) (hn : bs.length ≤ 60000) (a2 : Option Addr) (len2 cap2 : Nat) (ns : List Int)
    (h2 : SlR w a2 len2 cap2 (ns.map (Value.int .i64))) (hnn : ns.length ≤ 1000) :
    Calls Try.prog 60 #[.slice a len cap, .slice a2 len2 cap2] w (RetU (unpackR bs ns).1 (unpackR bs ns).2 w) := by
  have e2 : ns.length = len2 := by simpa using h2.1
  subst e2
  refine unpack_run w a len cap bs h hb hn a2 cap2 ns h2 hnn (upRun bs 0 [] ns).1 (upRun bs 0 [] ns).2.1 (upRun bs 0 [] ns).2.2 rfl (upRun_pos bs 0 [] ns (Nat.zero_le _)) _ _ ?_
  unfold unpackR
  by_cases he : (upRun bs 0 [] ns).1 = 0
  · rw [if_pos he]
    by_cases hm : (upRun bs 0 [] ns).2.1 < 8 * bs.length
    · rw [if_pos hm]; exact .inr (.inl ⟨he, hm, rfl, rfl⟩)
    · rw [if_neg hm]; exact .inr (.inr ⟨he, hm, rfl, rfl⟩)
  · rw [if_neg he]; exact .inl ⟨he, rfl, rfl⟩
end Go.Proofs.Ytiphcknnljjanaa
