/- Several texts in one: HdJ, HdK, HdS, HdL, HdM, HdR. -/
import Derived.Test.YtngobkghcogahaaGlD
import Derived.Maps.AppendAt
section
namespace Go.Proofs.Ytngobkghcogahaa
open Go.RowKit
set_option linter.unusedVariables false

theorem gb_put2 {w w1 : World} {row : Option Nat} {g i : Nat} {u : Value} (h : w.grownBy w1 row) (hg : w.heap.size ≤ g) : w.grownBy (w1.setCell ⟨g, i, none⟩ u) row := by
  have k := gb_set w1 g i u
  exact ⟨k.os.trans h.os, k.tape.trans h.tape, k.output.trans h.output, Nat.le_trans h.size k.size, fun q hq hr => (k.block q (Nat.lt_of_lt_of_le hq h.size) (by intro e; injection e with e; omega)).trans (h.block q hq hr)⟩
/-- A row of numbers of 32 bits of the call's own. -/
def UL (w : World) (base : Nat) (V : Value) (L : List Int) : Prop := w.ownsRow base 58 1 V L.length (L.map (Value.int .u32))
theorem UL.keep0 {w w2 : World} {base : Nat} {V : Value} {L : List Int} (h : UL w base V L) (k : w.grownBy w2 none) : UL w2 base V L := own_keep0 h k
theorem UL.shape {w : World} {base : Nat} {V : Value} {L : List Int} (h : UL w base V L) : ∃ a c, V = .slice a L.length c := own_shape h
theorem UL.slr {w : World} {base c n : Nat} {a : Option Addr} {L : List Int} (h : UL w base (.slice a n c) L) (hn : n = L.length) : SlR w a n c (L.map (Value.int .u32)) := by subst hn; exact own_slr h
theorem UL.put {w : World} {base g n c : Nat} {L : List Int} (h : UL w base (.slice (some ⟨g, 0, none⟩) n c) L) (hn : n = L.length) (p : Nat) (v : Int) :
    UL (w.setCell ⟨g, p, none⟩ (.int .u32 v)) base (.slice (some ⟨g, 0, none⟩) n c) (L.set p v) := by
  subst hn
  have k := (World.ownsRow.stored h p (.int .u32 v)).1
  unfold UL
  rw [List.map_set, List.length_set]
  exact k
theorem UL.free {w : World} {base g n c : Nat} {L : List Int} (h : UL w base (.slice (some ⟨g, 0, none⟩) n c) L) (hn : n = L.length) (p : Nat) : w.frozen? ⟨g, p, none⟩ = false := by
  subst hn
  obtain ⟨cs, hb⟩ := own_blk h
  exact hb.free p
theorem UL.at_ {w : World} {base g n c : Nat} {L : List Int} (h : UL w base (.slice (some ⟨g, 0, none⟩) n c) L) (hn : n = L.length) (p : Nat) (hp : p < L.length) : w.cell? ⟨g, p, none⟩ = some (.int .u32 (L.getD p 0)) := by
  subst hn
  exact own_cell h p hp
/-- What Read comes to: the error, the numbers, the position behind them. -/
def rdH (hs : ByteArray) (L : List Fld) (bs : List Int) (pos : Nat) : Int × List Int × Nat :=
  if ¬ chkH hs L = 0 then (chkH hs L, [], pos) else if (bs.length : Int) * 8 - pos < isum (wsL L) then (3, [], pos) else (0, numsB bs pos (wsL L), pos + sumL (wsL L))
theorem sumL_step (l : List Int) (k : Nat) (h : k < l.length) : sumL (l.take (k + 1)) = sumL (l.take k) + (l.getD k 0).toNat := by
  induction l generalizing k with
  | nil => simp at h
  | cons n t ih =>
    cases k with
    | zero => simp [sumL]
    | succ k =>
      have := ih k (by simpa using h)
      simp only [List.take_succ_cons, sumL, List.getD_cons_succ, this]
      omega
theorem sumL_le (l : List Int) (k : Nat) : sumL (l.take k) ≤ sumL l := by
  induction l generalizing k with
  | nil => simp
  | cons n t ih =>
    cases k with
    | zero => simp [sumL]
    | succ k =>
      have := ih k
      simp only [List.take_succ_cons, sumL]
      omega
theorem nums_at (bs : List Int) (l : List Int) : ∀ (pos k : Nat), k < l.length → (numsB bs pos l).getD k 0 = accB bs (pos + sumL (l.take k)) (l.getD k 0).toNat := by
  induction l with
  | nil => intro pos k h; simp at h
  | cons n t ih =>
    intro pos k h
    cases k with
    | zero => simp [numsB, sumL]
    | succ k =>
      have := ih (pos + n.toNat) k (by simpa using h)
      simp only [numsB, List.getD_cons_succ, this, List.take_succ_cons, sumL]
      rw [Nat.add_assoc]
/-- The call returns numbers of its own and an error code; the reader stands behind them. -/
def RetRh (er : Int) (us : List Int) (w : World) (base r s : Nat) (V : Value) (bs : List Int) (pos2 : Nat) (e : Ending) (w' : World) : Prop :=
  ∃ v', e = .returned (.tuple #[v', .int .i64 er]) ∧ w.grownBy w' (some s) ∧ Rdr w' base r s V bs pos2 ∧ UL w' w.heap.size v' us
set_option maxRecDepth 100000 in
set_option maxHeartbeats 8000000 in
theorem read_any (W w : World) (hs : ByteArray) (a : Option Addr) (n c : Nat) (L : List Fld) (h : HdOk W hs a n c L) (hW : Below W.heap.size W w) (base r s : Nat) (V : Value) (bs : List Int) (pos : Nat) (hR : Rdr w base r s V bs pos) (hs0 : W.heap.size ≤ s)
    (hb : ∀ b ∈ bs, 0 ≤ b ∧ b ≤ 255) (hbl : bs.length ≤ 60000) (hp : pos ≤ 8 * bs.length) (er : Int) (us : List Int) (pos2 : Nat) (hq : rdH hs L bs pos = (er, us, pos2)) :
    Calls Try.prog 40 #[.agg #[.string hs, .slice a n c], .pointer (some ⟨r, 0, none⟩)] w (RetRh er us w base r s V bs pos2) := by
  have HH := Lib.hid h
  have HB := Lib.hid hb
  have HW := Lib.hid (fun (w' : World) (g : w.grownBy w' (some s)) => gb_of_below (gb_below hW g hW.size (by intro q e; injection e with e; omega)))
  have HQ := Lib.hid hq
  have hsw := hR.sb.lt
  have A0 := Lib.hid (gb_alloc w (.cells #[.string hs, .slice a n c] 66) none)
  have HC := Lib.hid (fun w' (g : w.grownBy w' none) => check_any w' hs a n c L (h.sf.keep0 (HW.out w' (gb_any g))) h.few h.nm h.hn)
  have HC0 := Lib.hid (HC.out _ A0.out)
  have R1 := Lib.hid (hR.keep0 A0.out)
  have BX := Lib.hid (IsB.new w 66 #[.string hs, .slice a n c])
  have GL := Lib.hid (chk_ok hs L)
  have BT := Lib.hid (fun w' (g : w.grownBy w' (some s)) => bits_any w' hs a n c L (h.keep0 (HW.out w' g)))
  have HY := Lib.hid (bits_ok (hs := hs) (L := L))
  clear h hW hR hq hb
  unfold rdH at HQ
  obtain ⟨q, hqq⟩ : ∃ q, q = chkH hs L := ⟨_, rfl⟩
  rw [← hqq] at HC HC0 HQ GL HY
  obtain ⟨bt, hbt⟩ : ∃ q, q = bitsH hs L := ⟨_, rfl⟩
  rw [← hbt] at BT HY
  clear hqq HC hbt
  by_cases q0 : q = 0
  · have GLt := Lib.hid (GL.out q0)
    have HYt := Lib.hid (HY.out q0)
    rw [if_neg (by simp [q0]), ← HYt.out.1] at HQ
    clear GL HY
    subst q0
    go_enter Try.func40, Try.ntmps40
    go_wp2_with fail
    refine HC0.out.mono ?_
    rintro e w2 ⟨rfl, g2⟩
    have G2 := Lib.hid g2
    have R2 := Lib.hid (R1.out.keep0 g2)
    have BX2 := Lib.hid (BX.out.keep0 g2)
    have hpos2 := g2.size
    have HR2 := Lib.hid (reads_any w2 base r s V bs pos 0 R2.out HB.out hbl hp 10 0 pos (by unfold rdStep; rw [if_neg (by decide)]))
    clear g2 HC0
    go_wp2_with fail
    refine HR2.out.mono ?_
    rintro e w3 ⟨rfl, g3, r3⟩
    have BX3 := Lib.hid (BX2.out.keepS g3 R2.out.sb (by decide))
    have G3 := Lib.hid (gb_trans (gb_any (gb_trans A0.out G2.out)) g3)
    have R3 := Lib.hid r3
    clear g3 r3 HR2
    have RM := Lib.hid (fun w' (g : w3.grownBy w' none) => Remaining_any w' base r s V bs pos (R3.out.keep0 g) hbl hp)
    have BT3 := Lib.hid (fun w' (g : w3.grownBy w' none) => BT.out w' (gb_trans G3.out (gb_any g)))
    have KS := Lib.hid (fun (w' : World) (q : w3.grownBy w' none) => (⟨(BX3.out.keep0 q).cell 0, (BX3.out.keep0 q).cell 1, q⟩ : (fun w' : World => w'.cell? ⟨w.heap.size, 0, none⟩ = some (.string hs) ∧ w'.cell? ⟨w.heap.size, 1, none⟩ = some (.slice a n c) ∧ w3.grownBy w' none) w'))
    go_wp2_with fail
    go_region_held3 (fun w' : World => w'.cell? ⟨w.heap.size, 0, none⟩ = some (.string hs) ∧ w'.cell? ⟨w.heap.size, 1, none⟩ = some (.slice a n c) ∧ w3.grownBy w' none)
      (first
        | assumption
        | exact KS.out _ (by repeat' first
                                  | assumption
                                  | exact (And.right (And.right (by assumption)))
                                  | exact World.grownBy.refl _ _
                                  | exact gb_drew _ _
                                  | refine gb_trans ?_ (gb_drew _ _)
                                  | refine gb_trans ?_ (by assumption)))
      (first
        | (go_at_call 66; refine (RM.out _ (by repeat' first
                                  | assumption
                                  | exact (And.right (And.right (by assumption)))
                                  | exact World.grownBy.refl _ _
                                  | exact gb_drew _ _
                                  | refine gb_trans ?_ (gb_drew _ _)
                                  | refine gb_trans ?_ (by assumption))).mono ?_; rintro e w' ⟨rfl, g, _⟩)
        | (go_at_call 67; refine (BT3.out _ (by repeat' first
                                  | assumption
                                  | exact (And.right (And.right (by assumption)))
                                  | exact World.grownBy.refl _ _
                                  | exact gb_drew _ _
                                  | refine gb_trans ?_ (gb_drew _ _)
                                  | refine gb_trans ?_ (by assumption))).mono ?_; rintro e w' ⟨rfl, g⟩))
    have gS : w3.grownBy w' none := And.right (And.right (by assumption))
    rename_i hHeld
    clear hHeld
    generalize w' = w4 at *
    have G4 := Lib.hid (gb_trans G3.out (gb_any gS))
    have R4 := Lib.hid (R3.out.keep0 gS)
    have b0 := (BX3.out.keep0 gS).cell 0
    have b1 := (BX3.out.keep0 gS).cell 1
    have BX4 := Lib.hid (BX3.out.keep0 gS)
    simp at b0 b1
    clear gS KS RM BT3 BT R3 R2 G2 G3 BX3 BX2 BX R1
    by_cases hsh : (bs.length : Int) * 8 - pos < bt
    · rw [if_pos hsh] at HQ
      have E := HQ.out
      simp only [Prod.mk.injEq] at E
      obtain ⟨rfl, rfl, rfl⟩ := E
      go_wp2
      go_ret2
      exact ⟨_, rfl, G4.out, R4.out, World.ownsRow_nil _ _ _ _⟩
    · rw [if_neg hsh] at HQ
      have E := HQ.out
      simp only [Prod.mk.injEq] at E
      obtain ⟨rfl, hus, rfl⟩ := E
      have hfit : pos + sumL (wsL L) ≤ 8 * bs.length := by have := HYt.out.1; have := HYt.out.2.2.2; omega
      have hn12 : n ≤ 12 := by have := GLt.out.2.1; rw [HH.out.sf.len] at this; exact this
      have hfew := HH.out.few
      have hlen : (numsB bs pos (wsL L)).length = n := by rw [numsB_len, wsL_len, HH.out.sf.len]
      have HLEN := Lib.hid hlen
      have hwl : (wsL L).length = n := by rw [wsL_len, HH.out.sf.len]
      have HWL := Lib.hid hwl
      have NA := Lib.hid (nums_at bs (wsL L) pos)
      rw [hus] at HLEN NA
      have HFIT := Lib.hid hfit
      clear hus hlen hwl hfit HQ
      obtain ⟨i0, hi, hz0, hz1, hz2⟩ := info_parts infoU32h
      have HI := Lib.hid hi
      clear hi
      go_wp2_with (at_make; refine wpList_make_full _ rfl _ _ 40 rfl w.heap.size 58 i0 (.int .u32 0) 1 Try.underlying40 HI.out hz0 hz1 .i64 .i64 _ _ n rfl rfl ?c1 ?c2 ?c3 ?c4 ?c5 ?_)
      case c1 => first | rfl | omega
      case c2 => first | rfl | omega
      case c3 => first | (rw [hz2]; omega) | omega
      case c4 => unfold maxLen; omega
      case c5 => have := G4.out.size; omega
      intro w5 hown hg
      have N1 := Lib.hid (show UL w5 w.heap.size (.slice (some ⟨w4.heap.size, 0, none⟩) n n) (upto us 0) by
        unfold UL
        rw [upto_zero, HLEN.out, List.map_replicate, List.length_replicate, ← made_zero]
        first | exact hown | simpa using hown)
      have hg4 : w.heap.size ≤ w4.heap.size := G4.out.size
      have G5 := Lib.hid (gb_trans G4.out (gb_any hg))
      have R5 := Lib.hid (R4.out.keep0 hg)
      have BX5 := Lib.hid (BX4.out.keep0 hg)
      have b2 := BX5.out.cell 0
      have b3 := BX5.out.cell 1
      simp at b2 b3
      generalize w4.heap.size = gr at *
      clear hown hg b0 b1 R4 BX4 G4
      go_wp2_with fail
      go_loopw [36] (fun i wr => ∃ k : Nat, k ≤ n ∧ i = .int .i64 k ∧ UL wr w.heap.size (.slice (some ⟨gr, 0, none⟩) n n) (upto us k) ∧ Rdr wr base r s V bs (pos + sumL ((wsL L).take k)) ∧ w.grownBy wr (some s)) (fun i _ => n - (intOf i).toNat)
      case atStart => exact ⟨0, Nat.zero_le _, rfl, N1.out, by simpa [sumL] using R5.out, G5.out⟩
      case round =>
        obtain ⟨k, hk, rfl, q1, q2, q3⟩ := hrel
        clear N1 R5 G5 BX5 b2 b3
        have N1 := Lib.hid q1
        have R5 := Lib.hid q2
        have G5 := Lib.hid q3
        clear q1 q2 q3
        by_cases hlt : k < n
        · have sf := HH.out.sf.keep0 (HW.out wr G5.out)
          obtain ⟨ad, rfl⟩ := sf_some sf (by omega)
          obtain ⟨c0, c1⟩ := sf.cells ad rfl k hlt
          have i1 : (k : Int) < n := by omega
          have i0 : (0 : Int) ≤ (k : Int) := by omega
          have hl : k < L.length := by rw [HH.out.sf.len]; exact hlt
          have hkw : k < (wsL L).length := by rw [HWL.out]; exact hlt
          have hgd := GLt.out.2.2.2.2 ((wsL L).getD k 0) (by simp [hkw])
          have hna := NA.out k hkw
          have hst := sumL_step (wsL L) k hkw
          have hle := sumL_le (wsL L) (k + 1)
          rw [wsL_get L k hl] at hgd hna hst
          have HS := Lib.hid (upto_set us k (by rw [HLEN.out]; exact hlt))
          have hu := upto_len us k (by rw [HLEN.out]; omega)
          rw [HLEN.out] at hu
          obtain ⟨p, hp⟩ : ∃ p, p = L.getD k fz := ⟨_, rfl⟩
          rw [← hp] at c0 c1 hgd hna hst
          obtain ⟨v, m⟩ := p
          have RD := Lib.hid (reads_any (wr.alloc (.cells #[.string v, .int .i64 m] 94)) base r s V bs (pos + sumL ((wsL L).take k)) m (R5.out.keep0 (gb_alloc _ _ _)) HB.out hbl (by have := HFIT.out; omega) 0 (us.getD k 0) (pos + sumL ((wsL L).take (k + 1)))
            (by rw [rd_good _ _ _ hgd (by have := HFIT.out; simp only at hst; omega), hna, hst, Nat.add_assoc]))
          have FB := Lib.hid (IsB.new wr 94 #[.string v, .int .i64 m])
          obtain ⟨x, hx⟩ : ∃ x, x = us.getD k 0 := ⟨_, rfl⟩
          rw [← hx] at RD HS
          obtain ⟨y, hy⟩ : ∃ y, y = (upto us k).getD k 0 := ⟨_, rfl⟩
          have HY2 := Lib.hid hy
          clear hp hl hkw hgd hna hst hle sf hx hy
          go_wp2_with fail
          refine RD.out.mono ?_
          rintro e w6 ⟨rfl, g6, r6⟩
          have N2 := Lib.hid (own_keepS (N1.out.keep0 (gb_alloc wr (.cells #[.string v, .int .i64 m] 94) none)) g6 (R5.out.keep0 (gb_alloc wr (.cells #[.string v, .int .i64 m] 94) none)).sb (by decide))
          have f1 := UL.free N2.out hu.symm k
          have d1 := UL.at_ N2.out hu.symm k (by rw [hu]; exact hlt)
          rw [← HY2.out] at d1
          have N3 := Lib.hid (show UL (w6.setCell ⟨gr, k, none⟩ (.int .u32 x)) w.heap.size (.slice (some ⟨gr, 0, none⟩) n n) (upto us (k + 1)) by
            have q := UL.put N2.out hu.symm k x
            rw [HS.out] at q
            exact q)
          have G6 := Lib.hid (gb_put2 (g := gr) (i := k) (u := .int .u32 x) (gb_trans (gb_trans G5.out (gb_any (gb_alloc _ _ none))) g6) hg4)
          have R6 := Lib.hid (Rdr.other r6 N2.out (gb_set w6 gr k (.int .u32 x)))
          clear g6 r6 N2 c0 c1 RD
          go_wp2
          go_roundw
          case rel => exact ⟨k + 1, by omega, by go_num, N3.out, R6.out, G6.out⟩
          case measure => simp [intOf]; omega
        · have hke : k = n := by omega
          have E := Lib.hid (show upto us k = us by rw [hke, ← HLEN.out, upto_full])
          rw [E.out] at N1
          rw [hke, List.take_of_length_le (by rw [HWL.out]; exact Nat.le_refl _)] at R5
          have NL2 := Lib.hid N1.out
          subst hke
          go_wp2
          go_ret2
          exact ⟨_, rfl, G5.out, R5.out, N1.out⟩
  · have d1 : (q == 0) = false := by simp [q0]
    have d2 : (q != 0) = true := by simp [q0]
    rw [if_pos q0] at HQ
    have E := HQ.out
    simp only [Prod.mk.injEq] at E
    obtain ⟨rfl, rfl, rfl⟩ := E
    clear q0 GL HY BT
    go_enter Try.func40, Try.ntmps40
    go_wp2_with fail
    refine HC0.out.mono ?_
    rintro e w2 ⟨rfl, g2⟩
    have G2 := Lib.hid (gb_trans A0.out g2)
    have R2 := Lib.hid (R1.out.keep0 g2)
    clear g2
    go_wp2
    go_ret2
    exact ⟨_, rfl, gb_any G2.out, R2.out, World.ownsRow_nil _ _ _ _⟩
end Go.Proofs.Ytngobkghcogahaa
end
section
namespace Go.Proofs.Ytngobkghcogahaa
open Go.RowKit
set_option linter.unusedVariables false

/-- What the reference's Read holds: its header, its reader, its result, the bytes, the numbers so far. -/
def HIn (w : World) (base : Nat) (hs : ByteArray) (a : Option Addr) (n c : Nat) (ax : Option Addr) (cx : Nat) (bs : List Int) (pos : Nat) (U : Value) (us : List Int) (w' : World) : Prop :=
  IsB w' w.heap.size 66 #[.string hs, .slice a n c] ∧ IsB w' (w.heap.size + 1) 122 #[.slice ax bs.length cx, .int .i64 pos] ∧ IsB w' (w.heap.size + 2) 122 #[.slice none 0 0, .int .i64 0] ∧
  w'.ownsRow base 5 1 (.slice ax bs.length cx) bs.length (bs.map (Value.int .u8)) ∧ UL w' w.heap.size U us ∧ w.grownBy w' none
theorem HIn.step {w w1 w2 : World} {base : Nat} {hs : ByteArray} {a : Option Addr} {n c : Nat} {ax : Option Addr} {cx : Nat} {bs : List Int} {pos : Nat} {U : Value} {us : List Int} (h : HIn w base hs a n c ax cx bs pos U us w1) (k : w1.grownBy w2 none) : HIn w base hs a n c ax cx bs pos U us w2 :=
  ⟨h.1.keep0 k, h.2.1.keep0 k, h.2.2.1.keep0 k, own_keep0 h.2.2.2.1 k, h.2.2.2.2.1.keep0 k, gb_trans h.2.2.2.2.2 k⟩
theorem HIn.turn {w w1 : World} {base : Nat} {hs : ByteArray} {a : Option Addr} {n c : Nat} {ax : Option Addr} {cx : Nat} {bs : List Int} {pos : Nat} {U : Value} {us : List Int} (h : HIn w base hs a n c ax cx bs pos U us w1) (pos2 : Nat) :
    HIn w base hs a n c ax cx bs pos2 U us ((w1.setCell ⟨w.heap.size + 1, 0, none⟩ (.slice ax bs.length cx)).setCell ⟨w.heap.size + 1, 1, none⟩ (.int .i64 pos2)) := by
  obtain ⟨h1, h2, h3, h4, h5, h6⟩ := h
  have g0 := gb_set w1 (w.heap.size + 1) 0 (.slice ax bs.length cx)
  have n0 := h2.set 0 (.slice ax bs.length cx)
  have g1 := gb_set (w1.setCell ⟨w.heap.size + 1, 0, none⟩ (.slice ax bs.length cx)) (w.heap.size + 1) 1 (.int .i64 pos2)
  have n1 := n0.set 1 (.int .i64 pos2)
  exact ⟨(h1.keepS g0 h2 (by decide)).keepS g1 n0 (by decide), n1, (h3.set_far (by omega) 0 _).set_far (by omega) 1 _, own_keepS (own_keepS h4 g0 h2 (by decide)) g1 n0 (by decide), own_keepS (own_keepS h5 g0 h2 (by decide)) g1 n0 (by decide), gb_set2 h6 (by omega)⟩
theorem hin_new (w : World) (base : Nat) (hs : ByteArray) (a : Option Addr) (n c : Nat) (ax : Option Addr) (cx : Nat) (bs : List Int) (pos : Nat) (h : w.ownsRow base 5 1 (.slice ax bs.length cx) bs.length (bs.map (Value.int .u8))) :
    HIn w base hs a n c ax cx bs pos (.slice none 0 0) [] (((w.alloc (.cells #[.string hs, .slice a n c] 66)).alloc (.cells #[.slice ax bs.length cx, .int .i64 pos] 122)).alloc (.cells #[.slice none 0 0, .int .i64 0] 122)) := by
  have b1 := IsB.new w 66 #[.string hs, .slice a n c]
  have b2 := IsB.new (w.alloc (.cells #[.string hs, .slice a n c] 66)) 122 #[.slice ax bs.length cx, .int .i64 pos]
  have b3 := IsB.new ((w.alloc (.cells #[.string hs, .slice a n c] 66)).alloc (.cells #[.slice ax bs.length cx, .int .i64 pos] 122)) 122 #[.slice none 0 0, .int .i64 0]
  rw [show (w.alloc (.cells #[.string hs, .slice a n c] 66)).heap.size = w.heap.size + 1 by simp] at b2
  rw [show ((w.alloc (.cells #[.string hs, .slice a n c] 66)).alloc (.cells #[.slice ax bs.length cx, .int .i64 pos] 122)).heap.size = w.heap.size + 2 by simp] at b3
  exact ⟨(b1.alloc _).alloc _, b2.alloc _, b3, own_keep0 h (gb_trans (gb_trans (gb_alloc _ _ _) (gb_alloc _ _ _)) (gb_alloc _ _ _)), World.ownsRow_nil _ _ _ _, gb_trans (gb_trans (gb_alloc _ _ _) (gb_alloc _ _ _)) (gb_alloc _ _ _)⟩
/-- The reader where it was or moved, numbers of the call's own, an error code. -/
def RdH (ax : Option Addr) (m cx pos2 : Nat) (us : List Int) (er : Int) (w : World) (e : Ending) (w' : World) : Prop :=
  ∃ v', e = .returned (.tuple #[.agg #[.slice ax m cx, .int .i64 pos2], v', .int .i64 er]) ∧ w.grownBy w' none ∧ UL w' w.heap.size v' us
theorem hs_step {w w1 w2 : World} {base : Nat} {hs : ByteArray} {a : Option Addr} {n c : Nat} {ax : Option Addr} {cx : Nat} {bs : List Int} {pos : Nat} {U : Value} {us : List Int} {p : Addr} {x y z t : Value} {q1 q2 q3 : Addr}
    (h : w1.cell? q1 = some x ∧ w1.cell? q2 = some y ∧ w1.cell? q3 = some t ∧ w1.cell? p = some z ∧ HIn w base hs a n c ax cx bs pos U us w1) (k : w1.grownBy w2 none) :
    w2.cell? q1 = some x ∧ w2.cell? q2 = some y ∧ w2.cell? q3 = some t ∧ w2.cell? p = some z ∧ HIn w base hs a n c ax cx bs pos U us w2 :=
  ⟨cell_grown h.1 k, cell_grown h.2.1 k, cell_grown h.2.2.1 k, cell_grown h.2.2.2.1 k, h.2.2.2.2.step k⟩
theorem hs_row {w w1 : World} {base : Nat} {hs : ByteArray} {a : Option Addr} {n c : Nat} {ax : Option Addr} {cx : Nat} {bs : List Int} {pos : Nat} {U : Value} {us : List Int} {p1 p2 p3 p4 : Prop} (h : p1 ∧ p2 ∧ p3 ∧ p4 ∧ HIn w base hs a n c ax cx bs pos U us w1) : w1.ownsRow base 5 1 (.slice ax bs.length cx) bs.length (bs.map (Value.int .u8)) := h.2.2.2.2.2.2.2.1
theorem nums_take (bs : List Int) (l : List Int) : ∀ (pos k : Nat), k < l.length → (numsB bs pos l).take (k + 1) = (numsB bs pos l).take k ++ [accB bs (pos + sumL (l.take k)) (l.getD k 0).toNat] := by
  intro pos k h
  rw [← nums_at bs l pos k h, List.take_add_one]
  simp [numsB_len, h]
theorem one_cell2 (w : World) (t : TypeId) (x : Value) (n : Nat) (hn : n = w.heap.size) : ∀ (j : Nat) (u : Value), ([x] : List Value)[j]? = some u → (w.alloc (.cells #[x] t)).cell? ((⟨n, 0, none⟩ : Addr).add j) = some u := by
  intro j u hj
  subst hn
  match j, hj with
  | 0, hj => simp at hj; subst hj; simp [Addr.add]
theorem one_one2 (x : Value) (h : x.oneCell' = true) : ∀ u ∈ [x], u.oneCell' = true := by
  intro u hu; simp at hu; subst hu; exact h
theorem alloc_isb2 {w w2 : World} {cs : Array Value} {t : TypeId} (g : (w.drew.alloc (.cells cs t)).grownBy w2 none) : IsB w2 w.heap.size t cs := (IsB.new w.drew t cs).keep0 g
set_option maxRecDepth 100000 in
set_option maxHeartbeats 8000000 in
theorem rreadH_any (w : World) (hs9 : ByteArray) (a : Option Addr) (n c : Nat) (L : List Fld) (h : HdOk w hs9 a n c L) (base : Nat) (ax : Option Addr) (cx : Nat) (bs : List Int) (pos : Nat)
    (hR : w.ownsRow base 5 1 (.slice ax bs.length cx) bs.length (bs.map (Value.int .u8))) (hbase : base ≤ w.heap.size)
    (hb : ∀ b ∈ bs, 0 ≤ b ∧ b ≤ 255) (hbl : bs.length ≤ 60000) (hp : pos ≤ 8 * bs.length) (er : Int) (us : List Int) (pos2 : Nat) (hq : rdH hs9 L bs pos = (er, us, pos2)) :
    Calls Try.prog 113 #[.agg #[.string hs9, .slice a n c], .agg #[.slice ax bs.length cx, .int .i64 pos]] w (RdH ax bs.length cx pos2 us er w) := by
  obtain ⟨i0, hi, hz0, hz1, hz2⟩ := info_parts infoU32h
  have HI := Lib.hid hi
  have HH := Lib.hid h
  have HB := Lib.hid hb
  have HQ := Lib.hid hq
  have P0 := Lib.hid (hin_new w base hs9 a n c ax cx bs pos hR)
  have HC := Lib.hid (fun w' (g : w.grownBy w' none) => rcheck_any w' hs9 a n c L (h.sf.keep0 g) h.few h.nm h.hn)
  have HC0 := Lib.hid (HC.out _ P0.out.2.2.2.2.2)
  have GL := Lib.hid (chk_ok hs9 L)
  have BT := Lib.hid (fun w' (g : w.grownBy w' none) => rbits_any w' hs9 a n c L (h.keep0 g))
  have HY := Lib.hid (bits_ok (hs := hs9) (L := L))
  clear h hR hq hb hi
  unfold rdH at HQ
  obtain ⟨q, hqq⟩ : ∃ q, q = chkH hs9 L := ⟨_, rfl⟩
  rw [← hqq] at HC HC0 HQ GL HY
  obtain ⟨bt, hbt⟩ : ∃ q, q = bitsH hs9 L := ⟨_, rfl⟩
  rw [← hbt] at BT HY
  clear hqq HC hbt
  by_cases q0 : q = 0
  · have GLt := Lib.hid (GL.out q0)
    have HYt := Lib.hid (HY.out q0)
    rw [if_neg (by simp [q0]), ← HYt.out.1] at HQ
    clear GL HY
    subst q0
    go_enter Try.func113, Try.ntmps113
    go_wp2_with fail
    refine HC0.out.mono ?_
    rintro e w2 ⟨rfl, g2⟩
    have P2 := Lib.hid (P0.out.step g2)
    clear g2 HC0 P0
    have RM := Lib.hid (fun w' (g : w2.grownBy w' none) => rrem_any2 w' ax bs.length cx pos hbl hp)
    have BT3 := Lib.hid (fun w' (g : w2.grownBy w' none) => BT.out w' (gb_trans P2.out.2.2.2.2.2 g))
    have KS := Lib.hid (fun (w' : World) (q : w2.grownBy w' none) => (⟨(P2.out.1.keep0 q).cell 0, (P2.out.1.keep0 q).cell 1, (P2.out.2.1.keep0 q).cell 0, (P2.out.2.1.keep0 q).cell 1, q⟩ : (fun w' : World => w'.cell? ⟨w.heap.size, 0, none⟩ = some (.string hs9) ∧ w'.cell? ⟨w.heap.size, 1, none⟩ = some (.slice a n c) ∧ w'.cell? ⟨w.heap.size + 1, 0, none⟩ = some (.slice ax bs.length cx) ∧ w'.cell? ⟨w.heap.size + 1, 1, none⟩ = some (.int .i64 pos) ∧ w2.grownBy w' none) w'))
    go_wp2_with fail
    go_region_held3 (fun w' : World => w'.cell? ⟨w.heap.size, 0, none⟩ = some (.string hs9) ∧ w'.cell? ⟨w.heap.size, 1, none⟩ = some (.slice a n c) ∧ w'.cell? ⟨w.heap.size + 1, 0, none⟩ = some (.slice ax bs.length cx) ∧ w'.cell? ⟨w.heap.size + 1, 1, none⟩ = some (.int .i64 pos) ∧ w2.grownBy w' none)
      (first
        | assumption
        | exact KS.out _ (by repeat' first
                                  | assumption
                                  | exact (And.right (And.right (And.right (And.right (by assumption)))))
                                  | exact World.grownBy.refl _ _
                                  | exact gb_drew _ _
                                  | refine gb_trans ?_ (gb_drew _ _)
                                  | refine gb_trans ?_ (by assumption)))
      (first
        | (go_at_call 132; refine (RM.out _ (by repeat' first
                                  | assumption
                                  | exact (And.right (And.right (And.right (And.right (by assumption)))))
                                  | exact World.grownBy.refl _ _
                                  | exact gb_drew _ _
                                  | refine gb_trans ?_ (gb_drew _ _)
                                  | refine gb_trans ?_ (by assumption))).mono ?_; rintro e w' ⟨rfl, g, _⟩)
        | (go_at_call 131; refine (BT3.out _ (by repeat' first
                                  | assumption
                                  | exact (And.right (And.right (And.right (And.right (by assumption)))))
                                  | exact World.grownBy.refl _ _
                                  | exact gb_drew _ _
                                  | refine gb_trans ?_ (gb_drew _ _)
                                  | refine gb_trans ?_ (by assumption))).mono ?_; rintro e w' ⟨rfl, g⟩))
    have gS : w2.grownBy w' none := And.right (And.right (And.right (And.right (by assumption))))
    rename_i hHeld
    clear hHeld
    generalize w' = w4 at *
    have P4 := Lib.hid (P2.out.step gS)
    have b0 := P4.out.1.cell 0
    have b1 := P4.out.1.cell 1
    have c0 := P4.out.2.1.cell 0
    have c1 := P4.out.2.1.cell 1
    have f0 := P4.out.2.2.1.free 0
    have f1 := P4.out.2.2.1.free 1
    simp at b0 b1 c0 c1
    clear gS KS RM BT3 BT P2
    by_cases hsh : (bs.length : Int) * 8 - pos < bt
    · rw [if_pos hsh] at HQ
      have E := HQ.out
      simp only [Prod.mk.injEq] at E
      obtain ⟨rfl, rfl, rfl⟩ := E
      have d0 := P4.out.2.2.1.cell 0
      have d1 := P4.out.2.2.1.cell 1
      simp at d0 d1
      go_wp2
      have N3 := (P4.out.2.2.1.set 0 (.slice ax bs.length cx)).set 1 (.int .i64 pos)
      have e0 := N3.cell 0
      have e1 := N3.cell 1
      simp at e0 e1
      refine bodyPost_ret (v := .tuple #[.agg #[.slice ax bs.length cx, .int .i64 pos], .slice none 0 0, .int .i64 3]) (by simp [results, Try.results113, go_sem, e0, e1]) rfl ⟨_, rfl, gb_set2 P4.out.2.2.2.2.2 (by omega), World.ownsRow_nil _ _ _ _⟩
    · rw [if_neg hsh] at HQ
      have E := HQ.out
      simp only [Prod.mk.injEq] at E
      obtain ⟨rfl, hus, rfl⟩ := E
      have hfit : pos + sumL (wsL L) ≤ 8 * bs.length := by have := HYt.out.1; have := HYt.out.2.2.2; omega
      have hn12 : n ≤ 12 := by have := GLt.out.2.1; rw [HH.out.sf.len] at this; exact this
      have hwl : (wsL L).length = n := by rw [wsL_len, HH.out.sf.len]
      have HWL := Lib.hid hwl
      have NT := Lib.hid (nums_take bs (wsL L) pos)
      have hlen : (numsB bs pos (wsL L)).length = n := by rw [numsB_len, hwl]
      rw [hus] at NT hlen
      have HLEN := Lib.hid hlen
      have HFIT := Lib.hid hfit
      clear hus hwl hfit HQ hlen
      go_wp2_with fail
      go_loopw [8, 9] (fun u i wr => ∃ k : Nat, k ≤ n ∧ i = .int .i64 k ∧ HIn w base hs9 a n c ax cx bs (pos + sumL ((wsL L).take k)) u (us.take k) wr) (fun _ i _ => n - (intOf i).toNat)
      case atStart => exact ⟨0, Nat.zero_le _, rfl, by simpa [sumL] using P4.out⟩
      case round =>
        obtain ⟨k, hk, rfl, q1⟩ := hrel
        clear P4 b0 b1 c0 c1 f0 f1
        have P4 := Lib.hid q1
        obtain ⟨au, cu, rfl⟩ := UL.shape q1.2.2.2.2.1
        have hul : (us.take k).length = k := by simp; rw [HLEN.out]; omega
        clear q1
        by_cases hlt : k < n
        · have sf := HH.out.sf.keep0 P4.out.2.2.2.2.2
          obtain ⟨ad, rfl⟩ := sf_some sf (by omega)
          obtain ⟨c0, c1⟩ := sf.cells ad rfl k hlt
          have i1 : (k : Int) < n := by omega
          have i9 : (0 : Int) ≤ (k : Int) := by omega
          have hl : k < L.length := by rw [HH.out.sf.len]; exact hlt
          have hkw : k < (wsL L).length := by rw [HWL.out]; exact hlt
          have hgd := GLt.out.2.2.2.2 ((wsL L).getD k 0) (by simp [hkw])
          have hnt := NT.out k hkw
          have hst := sumL_step (wsL L) k hkw
          have hle := sumL_le (wsL L) (k + 1)
          rw [wsL_get L k hl] at hgd hnt hst
          obtain ⟨p, hp⟩ : ∃ p, p = L.getD k fz := ⟨_, rfl⟩
          rw [← hp] at c0 c1 hgd hnt hst
          obtain ⟨v, m⟩ := p
          obtain ⟨x, hx⟩ : ∃ x, x = accB bs (pos + sumL ((wsL L).take k)) m.toNat := ⟨_, rfl⟩
          have HS := Lib.hid (show rdStep bs (pos + sumL ((wsL L).take k)) m = (0, x, pos + sumL ((wsL L).take (k + 1))) by
            rw [rd_good _ _ _ hgd (by have := HFIT.out; simp only at hst; omega), hst, hx, Nat.add_assoc])
          have NT2 := Lib.hid (show us.take (k + 1) = us.take k ++ [x] by rw [hnt, hx])
          have HP := Lib.hid (show pos + sumL ((wsL L).take k) ≤ 8 * bs.length by have := HFIT.out; omega)
          obtain ⟨p1, hp1⟩ : ∃ q, q = pos + sumL ((wsL L).take k) := ⟨_, rfl⟩
          obtain ⟨p2, hp2⟩ : ∃ q, q = pos + sumL ((wsL L).take (k + 1)) := ⟨_, rfl⟩
          rw [← hp1] at HS HP P4
          rw [← hp2] at HS
          have HP2 := Lib.hid hp2
          obtain ⟨ut, hut⟩ : ∃ q, q = us.take k := ⟨_, rfl⟩
          rw [← hut] at hul P4 NT2 ⊢
          have HUL := Lib.hid hul
          have b1 := P4.out.1.cell 1
          simp at b1
          have SB := Lib.hid (show wr.cell? ⟨w.heap.size + 1, 0, none⟩ = some (.slice ax bs.length cx) ∧ wr.cell? ⟨w.heap.size + 1, 1, none⟩ = some (.int .i64 p1) ∧ wr.cell? ⟨w.heap.size, 1, none⟩ = some (.slice (some ad) n c) ∧ wr.cell? ⟨(ad.add (k * 2)).block, (ad.add (k * 2)).off + 1, none⟩ = some (.int .i64 m) ∧ HIn w base hs9 (some ad) n c ax cx bs p1 (.slice au ut.length cu) ut wr from ⟨P4.out.2.1.cell 0, P4.out.2.1.cell 1, b1, c1, P4.out⟩)
          clear hp hl hkw hgd hnt hst hle sf hx hp1 hp2 hut hul c0 c1
          go_wp2_with fail
          have hb0 := SB.out
          go_region_held3 (fun w' => w'.cell? ⟨w.heap.size + 1, 0, none⟩ = some (.slice ax bs.length cx) ∧ w'.cell? ⟨w.heap.size + 1, 1, none⟩ = some (.int .i64 p1) ∧ w'.cell? ⟨w.heap.size, 1, none⟩ = some (.slice (some ad) n c) ∧ w'.cell? ⟨(ad.add (k * 2)).block, (ad.add (k * 2)).off + 1, none⟩ = some (.int .i64 m) ∧ HIn w base hs9 (some ad) n c ax cx bs p1 (.slice au ut.length cu) ut w')
            (first | exact hs_step (by assumption) (by assumption) | exact hs_step (by assumption) (gb_alloc _ _ _) | exact hs_step hb0 (gb_drew _ _) | exact hs_step hb0 (gb_trans (gb_drew _ _) (gb_trans (by assumption) (gb_alloc _ _ _))) | exact hs_step hb0 (gb_trans (gb_drew _ _) (gb_set2 (gb_trans (gb_alloc _ _ _) (by assumption)) (Nat.le_refl _))) | exact hb0 | assumption)
            (first | (go_at_call 133; refine (rread_any _ base ax cx bs p1 m (hs_row (by assumption)) HB.out hbl HP.out 0 x p2 HS.out).mono ?_; rintro e w' ⟨rfl, g⟩; (first | (have yb := alloc_two g; obtain ⟨y0, y1, z0, z1⟩ := yb) | skip)))
          · rename_i hs
            have YB := Lib.hid (IsB.new w' 122 #[.slice ax bs.length cx, .int .i64 p2])
            clear g
            generalize w'.alloc (.cells #[.slice ax bs.length cx, .int .i64 p2] 122) = w6 at *
            generalize w'.heap.size = yb at *
            have PF := Lib.hid hs.2.2.2.2
            have c2 := hs.1
            have c3 := hs.2.1
            have f0 := PF.out.2.1.free 0
            have f1 := PF.out.2.1.free 1
            have y0 : w6.cell? ⟨yb, 0, none⟩ = some (.slice ax bs.length cx) := YB.out.cell 0
            have y1 : w6.cell? ⟨yb, 1, none⟩ = some (.int .i64 p2) := YB.out.cell 1
            have PT := Lib.hid (PF.out.turn p2)
            have PU := Lib.hid (PT.out.step (gb_alloc _ (.cells #[.int .u32 x] 58) none))
            have LE := Lib.hid (show ut.length ≤ 1000 by rw [HUL.out]; omega)
            clear hs hb0 SB PF PT
            go_wp2_with (at_builtin; refine wpList_append_own _ rfl _ _ 40 rfl w.heap.size 58 i0 (.int .u32 0) 1 4 Try.underlying40 HI.out hz0 hz1 hz2 rfl (by decide) _ ut.length (ut.map (Value.int .u32)) rfl PU.out.2.2.2.2.1 ⟨w6.heap.size, 0, none⟩ 1 1 [.int .u32 x] rfl rfl (one_cell2 _ _ _ _ (by simp)) (one_one2 _ rfl) ?c31 ?c41 ?c51 ?_)
            case c31 => have := LE.out; unfold maxLen; omega
            case c41 => have := LE.out; omega
            case c51 => have k := PU.out.2.2.2.2.2.size; first | exact k | simpa using k
            intro v' w5 hown5 hgrow _
            have UF := Lib.hid (show HIn w base hs9 (some ad) n c ax cx bs p2 v' (ut ++ [x]) w5 from ⟨PU.out.1.keep hgrow (fun e => own_ne PU.out.2.2.2.2.1 PU.out.1 (by decide) e.symm), PU.out.2.1.keep hgrow (fun e => own_ne PU.out.2.2.2.2.1 PU.out.2.1 (by decide) e.symm), PU.out.2.2.1.keep hgrow (fun e => own_ne PU.out.2.2.2.2.1 PU.out.2.2.1 (by decide) e.symm), PU.out.2.2.2.1.kept hgrow (own_two PU.out.2.2.2.1 PU.out.2.2.2.2.1 (by decide)), (by unfold UL; simpa using hown5), gb_row PU.out.2.2.2.2.2 hgrow PU.out.2.2.2.2.1⟩)
            clear hown5 hgrow PU
            go_wp2
            go_roundw
            case rel => exact ⟨k + 1, by omega, by go_num, by rw [NT2.out, ← HP2.out]; exact UF.out⟩
            case measure => simp [intOf]; omega
          · rename_i hs
            have YB := Lib.hid (show IsB ((w'.setCell ⟨wr.heap.size, 0, none⟩ (.slice ax bs.length cx)).setCell ⟨wr.heap.size, 1, none⟩ (.int .i64 p2)) wr.heap.size 122 #[.slice ax bs.length cx, .int .i64 p2] from ((alloc_isb2 g).set 0 (.slice ax bs.length cx)).set 1 (.int .i64 p2))
            clear g y0 y1 z0 z1
            generalize (w'.setCell ⟨wr.heap.size, 0, none⟩ (.slice ax bs.length cx)).setCell ⟨wr.heap.size, 1, none⟩ (.int .i64 p2) = w6 at *
            generalize wr.heap.size = yb at *
            have PF := Lib.hid hs.2.2.2.2
            have c2 := hs.1
            have c3 := hs.2.1
            have f0 := PF.out.2.1.free 0
            have f1 := PF.out.2.1.free 1
            have y0 : w6.cell? ⟨yb, 0, none⟩ = some (.slice ax bs.length cx) := YB.out.cell 0
            have y1 : w6.cell? ⟨yb, 1, none⟩ = some (.int .i64 p2) := YB.out.cell 1
            have PT := Lib.hid (PF.out.turn p2)
            have PU := Lib.hid (PT.out.step (gb_alloc _ (.cells #[.int .u32 x] 58) none))
            have LE := Lib.hid (show ut.length ≤ 1000 by rw [HUL.out]; omega)
            clear hs hb0 SB PF PT
            go_wp2_with (at_builtin; refine wpList_append_own _ rfl _ _ 40 rfl w.heap.size 58 i0 (.int .u32 0) 1 4 Try.underlying40 HI.out hz0 hz1 hz2 rfl (by decide) _ ut.length (ut.map (Value.int .u32)) rfl PU.out.2.2.2.2.1 ⟨w6.heap.size, 0, none⟩ 1 1 [.int .u32 x] rfl rfl (one_cell2 _ _ _ _ (by simp)) (one_one2 _ rfl) ?c32 ?c42 ?c52 ?_)
            case c32 => have := LE.out; unfold maxLen; omega
            case c42 => have := LE.out; omega
            case c52 => have k := PU.out.2.2.2.2.2.size; first | exact k | simpa using k
            intro v' w5 hown5 hgrow _
            have UF := Lib.hid (show HIn w base hs9 (some ad) n c ax cx bs p2 v' (ut ++ [x]) w5 from ⟨PU.out.1.keep hgrow (fun e => own_ne PU.out.2.2.2.2.1 PU.out.1 (by decide) e.symm), PU.out.2.1.keep hgrow (fun e => own_ne PU.out.2.2.2.2.1 PU.out.2.1 (by decide) e.symm), PU.out.2.2.1.keep hgrow (fun e => own_ne PU.out.2.2.2.2.1 PU.out.2.2.1 (by decide) e.symm), PU.out.2.2.2.1.kept hgrow (own_two PU.out.2.2.2.1 PU.out.2.2.2.2.1 (by decide)), (by unfold UL; simpa using hown5), gb_row PU.out.2.2.2.2.2 hgrow PU.out.2.2.2.2.1⟩)
            clear hown5 hgrow PU
            go_wp2
            go_roundw
            case rel => exact ⟨k + 1, by omega, by go_num, by rw [NT2.out, ← HP2.out]; exact UF.out⟩
            case measure => simp [intOf]; omega
        · have hke : k = n := by omega
          have EU := Lib.hid (show us.take k = us from List.take_of_length_le (by rw [HLEN.out, hke]; exact Nat.le_refl _))
          have EW := Lib.hid (show (wsL L).take k = wsL L from List.take_of_length_le (by rw [HWL.out, hke]; exact Nat.le_refl _))
          rw [EW.out] at P4
          obtain ⟨ut, hut⟩ : ∃ q, q = us.take k := ⟨_, rfl⟩
          rw [← hut] at P4 hul EU ⊢
          obtain ⟨p2, hp2⟩ : ∃ q, q = pos + sumL (wsL L) := ⟨_, rfl⟩
          rw [← hp2] at P4
          have HP2 := Lib.hid hp2
          have HUL := Lib.hid hul
          clear hut hp2 hul
          have b1 := P4.out.1.cell 1
          have c0 := P4.out.2.1.cell 0
          have c1 := P4.out.2.1.cell 1
          have f0 := P4.out.2.2.1.free 0
          have f1 := P4.out.2.2.1.free 1
          have d0 := P4.out.2.2.1.cell 0
          have d1 := P4.out.2.2.1.cell 1
          simp at b1 c0 c1 d0 d1
          subst hke
          go_wp2
          have N3 := (P4.out.2.2.1.set 0 (.slice ax bs.length cx)).set 1 (.int .i64 p2)
          have e0 := N3.cell 0
          have e1 := N3.cell 1
          simp at e0 e1
          refine bodyPost_ret (v := .tuple #[.agg #[.slice ax bs.length cx, .int .i64 p2], .slice au ut.length cu, .int .i64 0]) (by simp [results, Try.results113, go_sem, e0, e1]) rfl ?_
          rw [← HP2.out, ← EU.out]
          exact ⟨_, rfl, gb_set2 P4.out.2.2.2.2.2 (by omega), own_keepS (own_keepS P4.out.2.2.2.2.1 (gb_set _ _ _ _) P4.out.2.2.1 (by decide)) (gb_set _ _ _ _) (P4.out.2.2.1.set 0 _) (by decide)⟩
  · have d1 : (q == 0) = false := by simp [q0]
    have d2 : (q != 0) = true := by simp [q0]
    rw [if_pos q0] at HQ
    have E := HQ.out
    simp only [Prod.mk.injEq] at E
    obtain ⟨rfl, rfl, rfl⟩ := E
    clear q0 GL HY BT
    go_enter Try.func113, Try.ntmps113
    go_wp2_with fail
    refine HC0.out.mono ?_
    rintro e w2 ⟨rfl, g2⟩
    have P4 := Lib.hid (P0.out.step g2)
    clear g2 P0
    have c0 := P4.out.2.1.cell 0
    have c1 := P4.out.2.1.cell 1
    have f0 := P4.out.2.2.1.free 0
    have f1 := P4.out.2.2.1.free 1
    have d3 := P4.out.2.2.1.cell 0
    have d4 := P4.out.2.2.1.cell 1
    simp at c0 c1 d3 d4
    go_wp2
    have N3 := (P4.out.2.2.1.set 0 (.slice ax bs.length cx)).set 1 (.int .i64 pos)
    have e0 := N3.cell 0
    have e1 := N3.cell 1
    simp at e0 e1
    refine bodyPost_ret (v := .tuple #[.agg #[.slice ax bs.length cx, .int .i64 pos], .slice none 0 0, .int .i64 q]) (by simp [results, Try.results113, go_sem, e0, e1]) rfl ⟨_, rfl, gb_set2 P4.out.2.2.2.2.2 (by omega), World.ownsRow_nil _ _ _ _⟩
end Go.Proofs.Ytngobkghcogahaa
end
section
namespace Go.Proofs.Ytngobkghcogahaa
open Go.RowKit
set_option linter.unusedVariables false

/-- Changed are at most the state's block and the bytes' block; the bytes lie where they lay, or in a new block. -/
structure GS (s : Nat) (V : Value) (w : World) (V' : Value) (w' : World) : Prop where
  size : w.heap.size ≤ w'.heap.size
  block : ∀ k, k < w.heap.size → k ≠ s → V.ownBlock ≠ some k → w'.heap[k]? = w.heap[k]?
  own : V'.ownBlock = V.ownBlock ∨ ∀ g, V'.ownBlock = some g → w.heap.size ≤ g
theorem GS.refl (s : Nat) (V : Value) (w : World) : GS s V w V w := ⟨Nat.le_refl _, fun _ _ _ _ => rfl, .inl rfl⟩
theorem GS.trans {s : Nat} {A B C : Value} {a b c : World} (h : GS s A a B b) (k : GS s B b C c) : GS s A a C c := by
  refine ⟨Nat.le_trans h.size k.size, fun i hi h1 h2 => ?_, ?_⟩
  · refine (k.block i (Nat.lt_of_lt_of_le hi h.size) h1 ?_).trans (h.block i hi h1 h2)
    rcases h.own with e | e
    · rw [e]; exact h2
    · intro q; have := e i q; omega
  · rcases k.own with e | e
    · rw [e]; exact h.own
    · exact .inr fun g q => Nat.le_trans h.size (e g q)
def BitS (w : World) (base s : Nat) (V : Value) (L : List Bool) (e : Ending) (w' : World) : Prop := e = .returned (.tuple #[]) ∧ GTh base w w' ∧ ∃ V', WSt w' base s V' L ∧ GS s V w V' w'
theorem BitS.from {w w2 : World} {base s : Nat} {V V2 : Value} {L : List Bool} {e : Ending} {w' : World} (h : BitS w2 base s V2 L e w') (k : GTh base w w2) (q : GS s V w V2 w2) : BitS w base s V L e w' := by
  obtain ⟨h1, h2, V', h3, h4⟩ := h
  exact ⟨h1, k.trans h2, V', h3, q.trans h4⟩
end Go.Proofs.Ytngobkghcogahaa
end
section
namespace Go.Proofs.Ytngobkghcogahaa
open Go.RowKit
set_option linter.unusedVariables false

/-- What Write comes to: the error and the bits. -/
def wrH (hs : ByteArray) (L : List Fld) (vals : List Int) (B : List Bool) : Int × List Bool :=
  if ¬ chkH hs L = 0 then (chkH hs L, B) else if ¬ vals.length = L.length then (2, B) else if (pkRun [] (vals.zip (wsL L))).1 = 0 then (0, B ++ (pkRun [] (vals.zip (wsL L))).2) else ((pkRun [] (vals.zip (wsL L))).1, B)
end Go.Proofs.Ytngobkghcogahaa
end
section
namespace Go.Proofs.Ytngobkghcogahaa
open Go.RowKit
set_option linter.unusedVariables false

/-- What the reference's Write holds: its header, its writer, its result, the writer so far, the bits of both. -/
def WIn (w : World) (base : Nat) (hs : ByteArray) (a : Option Addr) (n c : Nat) (aw : Option Addr) (cw : Nat) (B : List Bool) (xb : Nat) (am : Option Addr) (cm : Nat) (M : List Bool) (w' : World) : Prop :=
  IsB w' w.heap.size 66 #[.string hs, .slice a n c] ∧ IsB w' (w.heap.size + 1) 61 #[.slice aw B.length cw] ∧ IsB w' (w.heap.size + 2) 61 #[.slice none 0 0] ∧
  IsB w' xb 61 #[.slice am M.length cm] ∧ BRow w' base (.slice aw B.length cw) B ∧ BRow w' base (.slice am M.length cm) M ∧ w.grownBy w' none
theorem WIn.step {w w1 w2 : World} {base : Nat} {hs : ByteArray} {a : Option Addr} {n c : Nat} {aw : Option Addr} {cw : Nat} {B : List Bool} {xb : Nat} {am : Option Addr} {cm : Nat} {M : List Bool} (h : WIn w base hs a n c aw cw B xb am cm M w1) (k : w1.grownBy w2 none) : WIn w base hs a n c aw cw B xb am cm M w2 :=
  ⟨h.1.keep0 k, h.2.1.keep0 k, h.2.2.1.keep0 k, h.2.2.2.1.keep0 k, own_keep0 h.2.2.2.2.1 k, own_keep0 h.2.2.2.2.2.1 k, gb_trans h.2.2.2.2.2.2 k⟩
end Go.Proofs.Ytngobkghcogahaa
end
section
namespace Go.Proofs.Ytngobkghcogahaa
open Go.RowKit
set_option linter.unusedVariables false

end Go.Proofs.Ytngobkghcogahaa
end
