/- Header: the walk of Read; no condition but sizes. -/
import Derived.Test.YtgknooblnpmloaaHdH
namespace Go.Proofs.Ytgknooblnpmloaa
open Go.RowKit
set_option linter.unusedVariables false

theorem gb_put2 {w w1 : World} {row : Option Nat} {g i : Nat} {u : Value} (h : w.grownBy w1 row) (hg : w.heap.size ≤ g) : w.grownBy (w1.setCell ⟨g, i, none⟩ u) row := by
  have k := gb_set w1 g i u
  exact ⟨k.os.trans h.os, k.tape.trans h.tape, k.output.trans h.output, Nat.le_trans h.size k.size, fun q hq hr => (k.block q (Nat.lt_of_lt_of_le hq h.size) (by intro e; injection e with e; omega)).trans (h.block q hq hr)⟩
/-- A row of numbers of 32 bits of the call's own. -/
def UL (w : World) (base : Nat) (V : Value) (L : List Int) : Prop := w.ownsRow base 39 1 V L.length (L.map (Value.int .u32))
theorem UL.keep0 {w w2 : World} {base : Nat} {V : Value} {L : List Int} (h : UL w base V L) (k : w.grownBy w2 none) : UL w2 base V L := own_keep0 h k
theorem UL.shape {w : World} {base : Nat} {V : Value} {L : List Int} (h : UL w base V L) : ∃ a c, V = .slice a L.length c := own_shape h
theorem UL.slr {w : World} {base c n : Nat} {a : Option Addr} {L : List Int} (h : UL w base (.slice a n c) L) (hn : n = L.length) : SlR w a n c (L.map (Value.int .u32)) := by subst hn; exact own_slr h
theorem UL.put {w : World} {base g n c : Nat} {L : List Int} (h : UL w base (.slice (some ⟨g, 0, none⟩) n c) L) (hn : n = L.length) (p : Nat) (v : Int) :
    UL (w.setCell ⟨g, p, none⟩ (.int .u32 v)) base (.slice (some ⟨g, 0, none⟩) n c) (L.set p v) := by
  subst hn
  have k := (World.ownsRow.stored h p (.int .u32 v)).1
  unfold UL
  rw [List.map_set, List.length_set]
  exact k
theorem UL.free {w : World} {base g n c : Nat} {L : List Int} (h : UL w base (.slice (some ⟨g, 0, none⟩) n c) L) (hn : n = L.length) (p : Nat) : w.frozen? ⟨g, p, none⟩ = false := by
  subst hn
  obtain ⟨cs, hb⟩ := own_blk h
  exact hb.free p
theorem UL.at_ {w : World} {base g n c : Nat} {L : List Int} (h : UL w base (.slice (some ⟨g, 0, none⟩) n c) L) (hn : n = L.length) (p : Nat) (hp : p < L.length) : w.cell? ⟨g, p, none⟩ = some (.int .u32 (L.getD p 0)) := by
  subst hn
  exact own_cell h p hp
/-- What Read comes to: the error, the numbers, the position behind them. -/
def rdH (hs : ByteArray) (L : List Fld) (bs : List Int) (pos : Nat) : Int × List Int × Nat :=
  if ¬ chkH hs L = 0 then (chkH hs L, [], pos) else if (bs.length : Int) * 8 - pos < isum (wsL L) then (3, [], pos) else (0, numsB bs pos (wsL L), pos + sumL (wsL L))
theorem sumL_step (l : List Int) (k : Nat) (h : k < l.length) : sumL (l.take (k + 1)) = sumL (l.take k) + (l.getD k 0).toNat := by
  induction l generalizing k with
  | nil => simp at h
  | cons n t ih =>
    cases k with
    | zero => simp [sumL]
    | succ k =>
      have := ih k (by simpa using h)
      simp only [List.take_succ_cons, sumL, List.getD_cons_succ, this]
      omega
theorem sumL_le (l : List Int) (k : Nat) : sumL (l.take k) ≤ sumL l := by
  induction l generalizing k with
  | nil => simp
  | cons n t ih =>
    cases k with
    | zero => simp [sumL]
    | succ k =>
      have := ih k
      simp only [List.take_succ_cons, sumL]
      omega
theorem nums_at (bs : List Int) (l : List Int) : ∀ (pos k : Nat), k < l.length → (numsB bs pos l).getD k 0 = accB bs (pos + sumL (l.take k)) (l.getD k 0).toNat := by
  induction l with
  | nil => intro pos k h; simp at h
  | cons n t ih =>
    intro pos k h
    cases k with
    | zero => simp [numsB, sumL]
    | succ k =>
      have := ih (pos + n.toNat) k (by simpa using h)
      simp only [numsB, List.getD_cons_succ, this, List.take_succ_cons, sumL]
      rw [Nat.add_assoc]
/-- The call returns numbers of its own and an error code; the reader stands behind them. -/
def RetR (er : Int) (us : List Int) (w : World) (base r s : Nat) (V : Value) (bs : List Int) (pos2 : Nat) (e : Ending) (w' : World) : Prop :=
  ∃ v', e = .returned (.tuple #[v', .int .i64 er]) ∧ w.grownBy w' (some s) ∧ Rdr w' base r s V bs pos2 ∧ UL w' w.heap.size v' us
theorem ret_nil {k : IntKind} {a b : Int} (h : a = b) : Ending.returned (.tuple #[.slice none 0 0, .int k a]) = .returned (.tuple #[.slice none 0 0, .int k b]) := by rw [h]
set_option maxRecDepth 100000 in
set_option maxHeartbeats 8000000 in
theorem read_any (W w : World) (hs : ByteArray) (a : Option Addr) (n c : Nat) (L : List Fld) (h : HdOk W hs a n c L) (hW : Below W.heap.size W w) (base r s : Nat) (V : Value) (bs : List Int) (pos : Nat) (hR : Rdr w base r s V bs pos) (hs0 : W.heap.size ≤ s)
    (hb : ∀ b ∈ bs, 0 ≤ b ∧ b ≤ 255) (hbl : bs.length ≤ 60000) (hp : pos ≤ 8 * bs.length) (er : Int) (us : List Int) (pos2 : Nat) (hq : rdH hs L bs pos = (er, us, pos2)) :
    Calls Try.prog 20 #[.agg #[.string hs, .slice a n c], .pointer (some ⟨r, 0, none⟩)] w (RetR er us w base r s V bs pos2) := by
  have HH := Lib.hid h
  have HB := Lib.hid hb
  have HW := Lib.hid (fun (w' : World) (g : w.grownBy w' (some s)) => gb_of_below (gb_below hW g hW.size (by intro q e; injection e with e; omega)))
  have HQ := Lib.hid hq
  have hsw := hR.sb.lt
  have A0 := Lib.hid (gb_alloc w (.cells #[.string hs, .slice a n c] 24) none)
  have HC := Lib.hid (fun w' (g : w.grownBy w' none) => check_any w' hs a n c L (h.sf.keep0 (HW.out w' (gb_any g))) h.few h.nm h.hn)
  have HC0 := Lib.hid (HC.out _ A0.out)
  have R1 := Lib.hid (hR.keep0 A0.out)
  have BX := Lib.hid (IsB.new w 24 #[.string hs, .slice a n c])
  have GL := Lib.hid (chk_ok hs L)
  have BT := Lib.hid (fun w' (g : w.grownBy w' (some s)) => bits_any w' hs a n c L (h.keep0 (HW.out w' g)))
  have HY := Lib.hid (bits_ok (hs := hs) (L := L))
  clear h hW hR hq hb
  unfold rdH at HQ
  obtain ⟨q, hqq⟩ : ∃ q, q = chkH hs L := ⟨_, rfl⟩
  rw [← hqq] at HC HC0 HQ GL HY
  obtain ⟨bt, hbt⟩ : ∃ q, q = bitsH hs L := ⟨_, rfl⟩
  rw [← hbt] at BT HY
  clear hqq HC hbt
  by_cases q0 : q = 0
  · have GLt := Lib.hid (GL.out q0)
    have HYt := Lib.hid (HY.out q0)
    rw [if_neg (by simp [q0]), ← HYt.out.1] at HQ
    clear GL HY
    subst q0
    go_enter Try.func20, Try.ntmps20
    go_wp2_with fail
    refine HC0.out.mono ?_
    rintro e w2 ⟨rfl, g2⟩
    have G2 := Lib.hid g2
    have R2 := Lib.hid (R1.out.keep0 g2)
    have BX2 := Lib.hid (BX.out.keep0 g2)
    have hpos2 := g2.size
    have HR2 := Lib.hid (reads_any w2 base r s V bs pos 0 R2.out HB.out hbl hp 10 0 pos (by unfold rdStep; rw [if_neg (by decide)]))
    clear g2 HC0
    go_wp2_with fail
    refine HR2.out.mono ?_
    rintro e w3 ⟨rfl, g3, r3⟩
    have BX3 := Lib.hid (BX2.out.keepS g3 R2.out.sb (by decide))
    have G3 := Lib.hid (gb_trans (gb_any (gb_trans A0.out G2.out)) g3)
    have R3 := Lib.hid r3
    clear g3 r3 HR2
    have RM := Lib.hid (fun w' (g : w3.grownBy w' none) => Remaining_any w' base r s V bs pos (R3.out.keep0 g) hbl hp)
    have BT3 := Lib.hid (fun w' (g : w3.grownBy w' none) => BT.out w' (gb_trans G3.out (gb_any g)))
    have KS := Lib.hid (fun (w' : World) (q : w3.grownBy w' none) => (⟨(BX3.out.keep0 q).cell 0, (BX3.out.keep0 q).cell 1, q⟩ : (fun w' : World => w'.cell? ⟨w.heap.size, 0, none⟩ = some (.string hs) ∧ w'.cell? ⟨w.heap.size, 1, none⟩ = some (.slice a n c) ∧ w3.grownBy w' none) w'))
    go_wp2_with fail
    go_region_held3 (fun w' : World => w'.cell? ⟨w.heap.size, 0, none⟩ = some (.string hs) ∧ w'.cell? ⟨w.heap.size, 1, none⟩ = some (.slice a n c) ∧ w3.grownBy w' none)
      (first
        | assumption
        | exact KS.out _ (by repeat' first
                                  | assumption
                                  | exact (And.right (And.right (by assumption)))
                                  | exact World.grownBy.refl _ _
                                  | exact gb_drew _ _
                                  | refine gb_trans ?_ (gb_drew _ _)
                                  | refine gb_trans ?_ (by assumption)))
      (first
        | (go_at_call 23; refine (RM.out _ (by repeat' first
                                  | assumption
                                  | exact (And.right (And.right (by assumption)))
                                  | exact World.grownBy.refl _ _
                                  | exact gb_drew _ _
                                  | refine gb_trans ?_ (gb_drew _ _)
                                  | refine gb_trans ?_ (by assumption))).mono ?_; rintro e w' ⟨rfl, g, _⟩)
        | (go_at_call 14; refine (BT3.out _ (by repeat' first
                                  | assumption
                                  | exact (And.right (And.right (by assumption)))
                                  | exact World.grownBy.refl _ _
                                  | exact gb_drew _ _
                                  | refine gb_trans ?_ (gb_drew _ _)
                                  | refine gb_trans ?_ (by assumption))).mono ?_; rintro e w' ⟨rfl, g⟩))
    have gS : w3.grownBy w' none := And.right (And.right (by assumption))
    rename_i hHeld
    clear hHeld
    generalize w' = w4 at *
    have G4 := Lib.hid (gb_trans G3.out (gb_any gS))
    have R4 := Lib.hid (R3.out.keep0 gS)
    have b0 := (BX3.out.keep0 gS).cell 0
    have b1 := (BX3.out.keep0 gS).cell 1
    have BX4 := Lib.hid (BX3.out.keep0 gS)
    simp at b0 b1
    clear gS KS RM BT3 BT R3 R2 G2 G3 BX3 BX2 BX R1
    by_cases hsh : (bs.length : Int) * 8 - pos < bt
    · rw [if_pos hsh] at HQ
      have E := HQ.out
      simp only [Prod.mk.injEq] at E
      obtain ⟨rfl, rfl, rfl⟩ := E
      go_wp2
      go_ret2
      exact ⟨_, rfl, G4.out, R4.out, World.ownsRow_nil _ _ _ _⟩
    · rw [if_neg hsh] at HQ
      have E := HQ.out
      simp only [Prod.mk.injEq] at E
      obtain ⟨rfl, hus, rfl⟩ := E
      have hfit : pos + sumL (wsL L) ≤ 8 * bs.length := by have := HYt.out.1; have := HYt.out.2.2.2; omega
      have hn12 : n ≤ 12 := by have := GLt.out.2.1; rw [HH.out.sf.len] at this; exact this
      have hfew := HH.out.few
      have hlen : (numsB bs pos (wsL L)).length = n := by rw [numsB_len, wsL_len, HH.out.sf.len]
      have HLEN := Lib.hid hlen
      have hwl : (wsL L).length = n := by rw [wsL_len, HH.out.sf.len]
      have HWL := Lib.hid hwl
      have NA := Lib.hid (nums_at bs (wsL L) pos)
      rw [hus] at HLEN NA
      have HFIT := Lib.hid hfit
      clear hus hlen hwl hfit HQ
      obtain ⟨i0, hi, hz0, hz1, hz2⟩ := info_parts infoU32
      have HI := Lib.hid hi
      clear hi
      go_wp2_with (at_make; refine wpList_make_full _ rfl _ _ 44 rfl w.heap.size 39 i0 (.int .u32 0) 1 Try.underlying44 HI.out hz0 hz1 .i64 .i64 _ _ n rfl rfl ?c1 ?c2 ?c3 ?c4 ?c5 ?_)
      case c1 => first | rfl | omega
      case c2 => first | rfl | omega
      case c3 => first | (rw [hz2]; omega) | omega
      case c4 => unfold maxLen; omega
      case c5 => have := G4.out.size; omega
      intro w5 hown hg
      have N1 := Lib.hid (show UL w5 w.heap.size (.slice (some ⟨w4.heap.size, 0, none⟩) n n) (upto us 0) by
        unfold UL
        rw [upto_zero, HLEN.out, List.map_replicate, List.length_replicate, ← made_zero]
        first | exact hown | simpa using hown)
      have hg4 : w.heap.size ≤ w4.heap.size := G4.out.size
      have G5 := Lib.hid (gb_trans G4.out (gb_any hg))
      have R5 := Lib.hid (R4.out.keep0 hg)
      have BX5 := Lib.hid (BX4.out.keep0 hg)
      have b2 := BX5.out.cell 0
      have b3 := BX5.out.cell 1
      simp at b2 b3
      generalize w4.heap.size = gr at *
      clear hown hg b0 b1 R4 BX4 G4
      go_wp2_with fail
      go_loopw [36] (fun i wr => ∃ k : Nat, k ≤ n ∧ i = .int .i64 k ∧ UL wr w.heap.size (.slice (some ⟨gr, 0, none⟩) n n) (upto us k) ∧ Rdr wr base r s V bs (pos + sumL ((wsL L).take k)) ∧ w.grownBy wr (some s)) (fun i _ => n - (intOf i).toNat)
      case atStart => exact ⟨0, Nat.zero_le _, rfl, N1.out, by simpa [sumL] using R5.out, G5.out⟩
      case round =>
        obtain ⟨k, hk, rfl, q1, q2, q3⟩ := hrel
        clear N1 R5 G5 BX5 b2 b3
        have N1 := Lib.hid q1
        have R5 := Lib.hid q2
        have G5 := Lib.hid q3
        clear q1 q2 q3
        by_cases hlt : k < n
        · have sf := HH.out.sf.keep0 (HW.out wr G5.out)
          obtain ⟨ad, rfl⟩ := sf_some sf (by omega)
          obtain ⟨c0, c1⟩ := sf.cells ad rfl k hlt
          have i1 : (k : Int) < n := by omega
          have i0 : (0 : Int) ≤ (k : Int) := by omega
          have hl : k < L.length := by rw [HH.out.sf.len]; exact hlt
          have hkw : k < (wsL L).length := by rw [HWL.out]; exact hlt
          have hgd := GLt.out.2.2.2.2 ((wsL L).getD k 0) (by simp [hkw])
          have hna := NA.out k hkw
          have hst := sumL_step (wsL L) k hkw
          have hle := sumL_le (wsL L) (k + 1)
          rw [wsL_get L k hl] at hgd hna hst
          have HS := Lib.hid (upto_set us k (by rw [HLEN.out]; exact hlt))
          have hu := upto_len us k (by rw [HLEN.out]; omega)
          rw [HLEN.out] at hu
          obtain ⟨p, hp⟩ : ∃ p, p = L.getD k fz := ⟨_, rfl⟩
          rw [← hp] at c0 c1 hgd hna hst
          obtain ⟨v, m⟩ := p
          have RD := Lib.hid (reads_any (wr.alloc (.cells #[.string v, .int .i64 m] 70)) base r s V bs (pos + sumL ((wsL L).take k)) m (R5.out.keep0 (gb_alloc _ _ _)) HB.out hbl (by have := HFIT.out; omega) 0 (us.getD k 0) (pos + sumL ((wsL L).take (k + 1)))
            (by rw [rd_good _ _ _ hgd (by have := HFIT.out; simp only at hst; omega), hna, hst, Nat.add_assoc]))
          have FB := Lib.hid (IsB.new wr 70 #[.string v, .int .i64 m])
          obtain ⟨x, hx⟩ : ∃ x, x = us.getD k 0 := ⟨_, rfl⟩
          rw [← hx] at RD HS
          obtain ⟨y, hy⟩ : ∃ y, y = (upto us k).getD k 0 := ⟨_, rfl⟩
          have HY2 := Lib.hid hy
          clear hp hl hkw hgd hna hst hle sf hx hy
          go_wp2_with fail
          refine RD.out.mono ?_
          rintro e w6 ⟨rfl, g6, r6⟩
          have N2 := Lib.hid (own_keepS (N1.out.keep0 (gb_alloc wr (.cells #[.string v, .int .i64 m] 70) none)) g6 (R5.out.keep0 (gb_alloc wr (.cells #[.string v, .int .i64 m] 70) none)).sb (by decide))
          have f1 := UL.free N2.out hu.symm k
          have d1 := UL.at_ N2.out hu.symm k (by rw [hu]; exact hlt)
          rw [← HY2.out] at d1
          have N3 := Lib.hid (show UL (w6.setCell ⟨gr, k, none⟩ (.int .u32 x)) w.heap.size (.slice (some ⟨gr, 0, none⟩) n n) (upto us (k + 1)) by
            have q := UL.put N2.out hu.symm k x
            rw [HS.out] at q
            exact q)
          have G6 := Lib.hid (gb_put2 (g := gr) (i := k) (u := .int .u32 x) (gb_trans (gb_trans G5.out (gb_any (gb_alloc _ _ none))) g6) hg4)
          have R6 := Lib.hid (Rdr.other r6 N2.out (gb_set w6 gr k (.int .u32 x)))
          clear g6 r6 N2 c0 c1 RD
          go_wp2
          go_roundw
          case rel => exact ⟨k + 1, by omega, by go_num, N3.out, R6.out, G6.out⟩
          case measure => simp [intOf]; omega
        · have hke : k = n := by omega
          have E := Lib.hid (show upto us k = us by rw [hke, ← HLEN.out, upto_full])
          rw [E.out] at N1
          rw [hke, List.take_of_length_le (by rw [HWL.out]; exact Nat.le_refl _)] at R5
          have NL2 := Lib.hid N1.out
          subst hke
          go_wp2
          go_ret2
          exact ⟨_, rfl, G5.out, R5.out, N1.out⟩
  · have d1 : (q == 0) = false := by simp [q0]
    have d2 : (q != 0) = true := by simp [q0]
    rw [if_pos q0] at HQ
    have E := HQ.out
    simp only [Prod.mk.injEq] at E
    obtain ⟨rfl, rfl, rfl⟩ := E
    clear q0 GL HY BT
    go_enter Try.func20, Try.ntmps20
    go_wp2_with fail
    refine HC0.out.mono ?_
    rintro e w2 ⟨rfl, g2⟩
    have G2 := Lib.hid (gb_trans A0.out g2)
    have R2 := Lib.hid (R1.out.keep0 g2)
    clear g2
    go_wp2
    go_ret2
    exact ⟨_, rfl, gb_any G2.out, R2.out, World.ownsRow_nil _ _ _ _⟩
end Go.Proofs.Ytgknooblnpmloaa
