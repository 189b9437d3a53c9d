/- Several texts in one: HdJ, HdK, HdS, HdL, HdM, HdR. -/
import Derived.Test.YtglgjkggjpfahaaGlD
import Derived.Maps.AppendAt
section
namespace Go.Proofs.Ytglgjkggjpfahaa
open Go.RowKit
set_option linter.unusedVariables false

theorem gb_put2 {w w1 : World} {row : Option Nat} {g i : Nat} {u : Value} (h : w.grownBy w1 row) (hg : w.heap.size ≤ g) : w.grownBy (w1.setCell ⟨g, i, none⟩ u) row := by
  have k := gb_set w1 g i u
  exact ⟨k.os.trans h.os, k.tape.trans h.tape, k.output.trans h.output, Nat.le_trans h.size k.size, fun q hq hr => (k.block q (Nat.lt_of_lt_of_le hq h.size) (by intro e; injection e with e; omega)).trans (h.block q hq hr)⟩
/-- A row of numbers of 32 bits of the call's own. -/
def UL (w : World) (base : Nat) (V : Value) (L : List Int) : Prop := w.ownsRow base 58 1 V L.length (L.map (Value.int .u32))
theorem UL.keep0 {w w2 : World} {base : Nat} {V : Value} {L : List Int} (h : UL w base V L) (k : w.grownBy w2 none) : UL w2 base V L := own_keep0 h k
theorem UL.shape {w : World} {base : Nat} {V : Value} {L : List Int} (h : UL w base V L) : ∃ a c, V = .slice a L.length c := own_shape h
theorem UL.slr {w : World} {base c n : Nat} {a : Option Addr} {L : List Int} (h : UL w base (.slice a n c) L) (hn : n = L.length) : SlR w a n c (L.map (Value.int .u32)) := by subst hn; exact own_slr h
theorem UL.put {w : World} {base g n c : Nat} {L : List Int} (h : UL w base (.slice (some ⟨g, 0, none⟩) n c) L) (hn : n = L.length) (p : Nat) (v : Int) :
    UL (w.setCell ⟨g, p, none⟩ (.int .u32 v)) base (.slice (some ⟨g, 0, none⟩) n c) (L.set p v) := by
  subst hn
  have k := (World.ownsRow.stored h p (.int .u32 v)).1
  unfold UL
  rw [List.map_set, List.length_set]
  exact k
theorem UL.free {w : World} {base g n c : Nat} {L : List Int} (h : UL w base (.slice (some ⟨g, 0, none⟩) n c) L) (hn : n = L.length) (p : Nat) : w.frozen? ⟨g, p, none⟩ = false := by
  subst hn
  obtain ⟨cs, hb⟩ := own_blk h
  exact hb.free p
theorem UL.at_ {w : World} {base g n c : Nat} {L : List Int} (h : UL w base (.slice (some ⟨g, 0, none⟩) n c) L) (hn : n = L.length) (p : Nat) (hp : p < L.length) : w.cell? ⟨g, p, none⟩ = some (.int .u32 (L.getD p 0)) := by
  subst hn
  exact own_cell h p hp
/-- What Read comes to: the error, the numbers, the position behind them. -/
def rdH (hs : ByteArray) (L : List Fld) (bs : List Int) (pos : Nat) : Int × List Int × Nat :=
  if ¬ chkH hs L = 0 then (chkH hs L, [], pos) else if (bs.length : Int) * 8 - pos < isum (wsL L) then (3, [], pos) else (0, numsB bs pos (wsL L), pos + sumL (wsL L))
theorem sumL_step (l : List Int) (k : Nat) (h : k < l.length) : sumL (l.take (k + 1)) = sumL (l.take k) + (l.getD k 0).toNat := by
  induction l generalizing k with
  | nil => simp at h
  | cons n t ih =>
    cases k with
    | zero => simp [sumL]
    | succ k =>
      have := ih k (by simpa using h)
      simp only [List.take_succ_cons, sumL, List.getD_cons_succ, this]
      omega
theorem sumL_le (l : List Int) (k : Nat) : sumL (l.take k) ≤ sumL l := by
  induction l generalizing k with
  | nil => simp
  | cons n t ih =>
    cases k with
    | zero => simp [sumL]
    | succ k =>
      have := ih k
      simp only [List.take_succ_cons, sumL]
      omega
theorem nums_at (bs : List Int) (l : List Int) : ∀ (pos k : Nat), k < l.length → (numsB bs pos l).getD k 0 = accB bs (pos + sumL (l.take k)) (l.getD k 0).toNat := by
  induction l with
  | nil => intro pos k h; simp at h
  | cons n t ih =>
    intro pos k h
    cases k with
    | zero => simp [numsB, sumL]
    | succ k =>
      have := ih (pos + n.toNat) k (by simpa using h)
      simp only [numsB, List.getD_cons_succ, this, List.take_succ_cons, sumL]
      rw [Nat.add_assoc]
/-- The call returns numbers of its own and an error code; the reader stands behind them. -/
def RetRh (er : Int) (us : List Int) (w : World) (base r s : Nat) (V : Value) (bs : List Int) (pos2 : Nat) (e : Ending) (w' : World) : Prop :=
  ∃ v', e = .returned (.tuple #[v', .int .i64 er]) ∧ w.grownBy w' (some s) ∧ Rdr w' base r s V bs pos2 ∧ UL w' w.heap.size v' us
theorem ret_nil {k : IntKind} {a b : Int} (h : a = b) : Ending.returned (.tuple #[.slice none 0 0, .int k a]) = .returned (.tuple #[.slice none 0 0, .int k b]) := by rw [h]
set_option maxRecDepth 100000 in
set_option maxHeartbeats 8000000 in
theorem read_any (W w : World) (hs : ByteArray) (a : Option Addr) (n c : Nat) (L : List Fld) (h : HdOk W hs a n c L) (hW : Below W.heap.size W w) (base r s : Nat) (V : Value) (bs : List Int) (pos : Nat) (hR : Rdr w base r s V bs pos) (hs0 : W.heap.size ≤ s)
    (hb : ∀ b ∈ bs, 0 ≤ b ∧ b ≤ 255) (hbl : bs.length ≤ 60000) (hp : pos ≤ 8 * bs.length) (er : Int) (us : List Int) (pos2 : Nat) (hq : rdH hs L bs pos = (er, us, pos2)) :
    Calls Try.prog 40 #[.agg #[.string hs, .slice a n c], .pointer (some ⟨r, 0, none⟩)] w (RetRh er us w base r s V bs pos2) := by
  have HH := Lib.hid h
  have HB := Lib.hid hb
  have HW := Lib.hid (fun (w' : World) (g : w.grownBy w' (some s)) => gb_of_below (gb_below hW g hW.size (by intro q e; injection e with e; omega)))
  have HQ := Lib.hid hq
  have hsw := hR.sb.lt
  have A0 := Lib.hid (gb_alloc w (.cells #[.string hs, .slice a n c] 66) none)
  have HC := Lib.hid (fun w' (g : w.grownBy w' none) => check_any w' hs a n c L (h.sf.keep0 (HW.out w' (gb_any g))) h.few h.nm h.hn)
  have HC0 := Lib.hid (HC.out _ A0.out)
  have R1 := Lib.hid (hR.keep0 A0.out)
  have BX := Lib.hid (IsB.new w 66 #[.string hs, .slice a n c])
  have GL := Lib.hid (chk_ok hs L)
  have BT := Lib.hid (fun w' (g : w.grownBy w' (some s)) => bits_any w' hs a n c L (h.keep0 (HW.out w' g)))
  have HY := Lib.hid (bits_ok (hs := hs) (L := L))
  clear h hW hR hq hb
  unfold rdH at HQ
  obtain ⟨q, hqq⟩ : ∃ q, q = chkH hs L := ⟨_, rfl⟩
  rw [← hqq] at HC HC0 HQ GL HY
  obtain ⟨bt, hbt⟩ : ∃ q, q = bitsH hs L := ⟨_, rfl⟩
  rw [← hbt] at BT HY
  clear hqq HC hbt
  by_cases q0 : q = 0
  · have GLt := Lib.hid (GL.out q0)
    have HYt := Lib.hid (HY.out q0)
    rw [if_neg (by simp [q0]), ← HYt.out.1] at HQ
    clear GL HY
    subst q0
    go_enter Try.func40, Try.ntmps40
    go_wp2_with fail
    refine HC0.out.mono ?_
    rintro e w2 ⟨rfl, g2⟩
    have G2 := Lib.hid g2
    have R2 := Lib.hid (R1.out.keep0 g2)
    have BX2 := Lib.hid (BX.out.keep0 g2)
    have hpos2 := g2.size
    have HR2 := Lib.hid (reads_any w2 base r s V bs pos 0 R2.out HB.out hbl hp 10 0 pos (by unfold rdStep; rw [if_neg (by decide)]))
    clear g2 HC0
    go_wp2_with fail
    refine HR2.out.mono ?_
    rintro e w3 ⟨rfl, g3, r3⟩
    have BX3 := Lib.hid (BX2.out.keepS g3 R2.out.sb (by decide))
    have G3 := Lib.hid (gb_trans (gb_any (gb_trans A0.out G2.out)) g3)
    have R3 := Lib.hid r3
    clear g3 r3 HR2
    have RM := Lib.hid (fun w' (g : w3.grownBy w' none) => Remaining_any w' base r s V bs pos (R3.out.keep0 g) hbl hp)
    have BT3 := Lib.hid (fun w' (g : w3.grownBy w' none) => BT.out w' (gb_trans G3.out (gb_any g)))
    have KS := Lib.hid (fun (w' : World) (q : w3.grownBy w' none) => (⟨(BX3.out.keep0 q).cell 0, (BX3.out.keep0 q).cell 1, q⟩ : (fun w' : World => w'.cell? ⟨w.heap.size, 0, none⟩ = some (.string hs) ∧ w'.cell? ⟨w.heap.size, 1, none⟩ = some (.slice a n c) ∧ w3.grownBy w' none) w'))
    go_wp2_with fail
    go_region_held3 (fun w' : World => w'.cell? ⟨w.heap.size, 0, none⟩ = some (.string hs) ∧ w'.cell? ⟨w.heap.size, 1, none⟩ = some (.slice a n c) ∧ w3.grownBy w' none)
      (first
        | assumption
        | exact KS.out _ (by repeat' first
                                  | assumption
                                  | exact (And.right (And.right (by assumption)))
                                  | exact World.grownBy.refl _ _
                                  | exact gb_drew _ _
                                  | refine gb_trans ?_ (gb_drew _ _)
                                  | refine gb_trans ?_ (by assumption)))
      (first
        | (go_at_call 66; refine (RM.out _ (by repeat' first
                                  | assumption
                                  | exact (And.right (And.right (by assumption)))
                                  | exact World.grownBy.refl _ _
                                  | exact gb_drew _ _
                                  | refine gb_trans ?_ (gb_drew _ _)
                                  | refine gb_trans ?_ (by assumption))).mono ?_; rintro e w' ⟨rfl, g, _⟩)
        | (go_at_call 67; refine (BT3.out _ (by repeat' first
                                  | assumption
                                  | exact (And.right (And.right (by assumption)))
                                  | exact World.grownBy.refl _ _
                                  | exact gb_drew _ _
                                  | refine gb_trans ?_ (gb_drew _ _)
                                  | refine gb_trans ?_ (by assumption))).mono ?_; rintro e w' ⟨rfl, g⟩))
    have gS : w3.grownBy w' none := And.right (And.right (by assumption))
    rename_i hHeld
    clear hHeld
    generalize w' = w4 at *
    have G4 := Lib.hid (gb_trans G3.out (gb_any gS))
    have R4 := Lib.hid (R3.out.keep0 gS)
    have b0 := (BX3.out.keep0 gS).cell 0
    have b1 := (BX3.out.keep0 gS).cell 1
    have BX4 := Lib.hid (BX3.out.keep0 gS)
    simp at b0 b1
    clear gS KS RM BT3 BT R3 R2 G2 G3 BX3 BX2 BX R1
    by_cases hsh : (bs.length : Int) * 8 - pos < bt
    · rw [if_pos hsh] at HQ
      have E := HQ.out
      simp only [Prod.mk.injEq] at E
      obtain ⟨rfl, rfl, rfl⟩ := E
      go_wp2
      go_ret2
      exact ⟨_, rfl, G4.out, R4.out, World.ownsRow_nil _ _ _ _⟩
    · rw [if_neg hsh] at HQ
      have E := HQ.out
      simp only [Prod.mk.injEq] at E
      obtain ⟨rfl, hus, rfl⟩ := E
      have hfit : pos + sumL (wsL L) ≤ 8 * bs.length := by have := HYt.out.1; have := HYt.out.2.2.2; omega
      have hn12 : n ≤ 12 := by have := GLt.out.2.1; rw [HH.out.sf.len] at this; exact this
      have hfew := HH.out.few
      have hlen : (numsB bs pos (wsL L)).length = n := by rw [numsB_len, wsL_len, HH.out.sf.len]
      have HLEN := Lib.hid hlen
      have hwl : (wsL L).length = n := by rw [wsL_len, HH.out.sf.len]
      have HWL := Lib.hid hwl
      have NA := Lib.hid (nums_at bs (wsL L) pos)
      rw [hus] at HLEN NA
      have HFIT := Lib.hid hfit
      clear hus hlen hwl hfit HQ
      obtain ⟨i0, hi, hz0, hz1, hz2⟩ := info_parts infoU32h
      have HI := Lib.hid hi
      clear hi
      go_wp2_with (at_make; refine wpList_make_full _ rfl _ _ 40 rfl w.heap.size 58 i0 (.int .u32 0) 1 Try.underlying40 HI.out hz0 hz1 .i64 .i64 _ _ n rfl rfl ?c1 ?c2 ?c3 ?c4 ?c5 ?_)
      case c1 => first | rfl | omega
      case c2 => first | rfl | omega
      case c3 => first | (rw [hz2]; omega) | omega
      case c4 => unfold maxLen; omega
      case c5 => have := G4.out.size; omega
      intro w5 hown hg
      have N1 := Lib.hid (show UL w5 w.heap.size (.slice (some ⟨w4.heap.size, 0, none⟩) n n) (upto us 0) by
        unfold UL
        rw [upto_zero, HLEN.out, List.map_replicate, List.length_replicate, ← made_zero]
        first | exact hown | simpa using hown)
      have hg4 : w.heap.size ≤ w4.heap.size := G4.out.size
      have G5 := Lib.hid (gb_trans G4.out (gb_any hg))
      have R5 := Lib.hid (R4.out.keep0 hg)
      have BX5 := Lib.hid (BX4.out.keep0 hg)
      have b2 := BX5.out.cell 0
      have b3 := BX5.out.cell 1
      simp at b2 b3
      generalize w4.heap.size = gr at *
      clear hown hg b0 b1 R4 BX4 G4
      go_wp2_with fail
      go_loopw [36] (fun i wr => ∃ k : Nat, k ≤ n ∧ i = .int .i64 k ∧ UL wr w.heap.size (.slice (some ⟨gr, 0, none⟩) n n) (upto us k) ∧ Rdr wr base r s V bs (pos + sumL ((wsL L).take k)) ∧ w.grownBy wr (some s)) (fun i _ => n - (intOf i).toNat)
      case atStart => exact ⟨0, Nat.zero_le _, rfl, N1.out, by simpa [sumL] using R5.out, G5.out⟩
      case round =>
        obtain ⟨k, hk, rfl, q1, q2, q3⟩ := hrel
        clear N1 R5 G5 BX5 b2 b3
        have N1 := Lib.hid q1
        have R5 := Lib.hid q2
        have G5 := Lib.hid q3
        clear q1 q2 q3
        by_cases hlt : k < n
        · have sf := HH.out.sf.keep0 (HW.out wr G5.out)
          obtain ⟨ad, rfl⟩ := sf_some sf (by omega)
          obtain ⟨c0, c1⟩ := sf.cells ad rfl k hlt
          have i1 : (k : Int) < n := by omega
          have i0 : (0 : Int) ≤ (k : Int) := by omega
          have hl : k < L.length := by rw [HH.out.sf.len]; exact hlt
          have hkw : k < (wsL L).length := by rw [HWL.out]; exact hlt
          have hgd := GLt.out.2.2.2.2 ((wsL L).getD k 0) (by simp [hkw])
          have hna := NA.out k hkw
          have hst := sumL_step (wsL L) k hkw
          have hle := sumL_le (wsL L) (k + 1)
          rw [wsL_get L k hl] at hgd hna hst
          have HS := Lib.hid (upto_set us k (by rw [HLEN.out]; exact hlt))
          have hu := upto_len us k (by rw [HLEN.out]; omega)
          rw [HLEN.out] at hu
          obtain ⟨p, hp⟩ : ∃ p, p = L.getD k fz := ⟨_, rfl⟩
          rw [← hp] at c0 c1 hgd hna hst
          obtain ⟨v, m⟩ := p
          have RD := Lib.hid (reads_any (wr.alloc (.cells #[.string v, .int .i64 m] 94)) base r s V bs (pos + sumL ((wsL L).take k)) m (R5.out.keep0 (gb_alloc _ _ _)) HB.out hbl (by have := HFIT.out; omega) 0 (us.getD k 0) (pos + sumL ((wsL L).take (k + 1)))
            (by rw [rd_good _ _ _ hgd (by have := HFIT.out; simp only at hst; omega), hna, hst, Nat.add_assoc]))
          have FB := Lib.hid (IsB.new wr 94 #[.string v, .int .i64 m])
          obtain ⟨x, hx⟩ : ∃ x, x = us.getD k 0 := ⟨_, rfl⟩
          rw [← hx] at RD HS
          obtain ⟨y, hy⟩ : ∃ y, y = (upto us k).getD k 0 := ⟨_, rfl⟩
          have HY2 := Lib.hid hy
          clear hp hl hkw hgd hna hst hle sf hx hy
          go_wp2_with fail
          refine RD.out.mono ?_
          rintro e w6 ⟨rfl, g6, r6⟩
          have N2 := Lib.hid (own_keepS (N1.out.keep0 (gb_alloc wr (.cells #[.string v, .int .i64 m] 94) none)) g6 (R5.out.keep0 (gb_alloc wr (.cells #[.string v, .int .i64 m] 94) none)).sb (by decide))
          have f1 := UL.free N2.out hu.symm k
          have d1 := UL.at_ N2.out hu.symm k (by rw [hu]; exact hlt)
          rw [← HY2.out] at d1
          have N3 := Lib.hid (show UL (w6.setCell ⟨gr, k, none⟩ (.int .u32 x)) w.heap.size (.slice (some ⟨gr, 0, none⟩) n n) (upto us (k + 1)) by
            have q := UL.put N2.out hu.symm k x
            rw [HS.out] at q
            exact q)
          have G6 := Lib.hid (gb_put2 (g := gr) (i := k) (u := .int .u32 x) (gb_trans (gb_trans G5.out (gb_any (gb_alloc _ _ none))) g6) hg4)
          have R6 := Lib.hid (Rdr.other r6 N2.out (gb_set w6 gr k (.int .u32 x)))
          clear g6 r6 N2 c0 c1 RD
          go_wp2
          go_roundw
          case rel => exact ⟨k + 1, by omega, by go_num, N3.out, R6.out, G6.out⟩
          case measure => simp [intOf]; omega
        · have hke : k = n := by omega
          have E := Lib.hid (show upto us k = us by rw [hke, ← HLEN.out, upto_full])
          rw [E.out] at N1
          rw [hke, List.take_of_length_le (by rw [HWL.out]; exact Nat.le_refl _)] at R5
          have NL2 := Lib.hid N1.out
          subst hke
          go_wp2
          go_ret2
          exact ⟨_, rfl, G5.out, R5.out, N1.out⟩
  · have d1 : (q == 0) = false := by simp [q0]
    have d2 : (q != 0) = true := by simp [q0]
    rw [if_pos q0] at HQ
    have E := HQ.out
    simp only [Prod.mk.injEq] at E
    obtain ⟨rfl, rfl, rfl⟩ := E
    clear q0 GL HY BT
    go_enter Try.func40, Try.ntmps40
    go_wp2_with fail
    refine HC0.out.mono ?_
    rintro e w2 ⟨rfl, g2⟩
    have G2 := Lib.hid (gb_trans A0.out g2)
    have R2 := Lib.hid (R1.out.keep0 g2)
    clear g2
    go_wp2
    go_ret2
    exact ⟨_, rfl, gb_any G2.out, R2.out, World.ownsRow_nil _ _ _ _⟩
end Go.Proofs.Ytglgjkggjpfahaa
end
section
namespace Go.Proofs.Ytglgjkggjpfahaa
open Go.RowKit
set_option linter.unusedVariables false

/-- What the reference's Read holds: its header, its reader, its result, the bytes, the numbers so far. -/
def HIn (w : World) (base : Nat) (hs : ByteArray) (a : Option Addr) (n c : Nat) (ax : Option Addr) (cx : Nat) (bs : List Int) (pos : Nat) (U : Value) (us : List Int) (w' : World) : Prop :=
  IsB w' w.heap.size 66 #[.string hs, .slice a n c] ∧ IsB w' (w.heap.size + 1) 122 #[.slice ax bs.length cx, .int .i64 pos] ∧ IsB w' (w.heap.size + 2) 122 #[.slice none 0 0, .int .i64 0] ∧
  w'.ownsRow base 5 1 (.slice ax bs.length cx) bs.length (bs.map (Value.int .u8)) ∧ UL w' w.heap.size U us ∧ w.grownBy w' none
theorem HIn.step {w w1 w2 : World} {base : Nat} {hs : ByteArray} {a : Option Addr} {n c : Nat} {ax : Option Addr} {cx : Nat} {bs : List Int} {pos : Nat} {U : Value} {us : List Int} (h : HIn w base hs a n c ax cx bs pos U us w1) (k : w1.grownBy w2 none) : HIn w base hs a n c ax cx bs pos U us w2 :=
  ⟨h.1.keep0 k, h.2.1.keep0 k, h.2.2.1.keep0 k, own_keep0 h.2.2.2.1 k, h.2.2.2.2.1.keep0 k, gb_trans h.2.2.2.2.2 k⟩
theorem HIn.turn {w w1 : World} {base : Nat} {hs : ByteArray} {a : Option Addr} {n c : Nat} {ax : Option Addr} {cx : Nat} {bs : List Int} {pos : Nat} {U : Value} {us : List Int} (h : HIn w base hs a n c ax cx bs pos U us w1) (pos2 : Nat) :
    HIn w base hs a n c ax cx bs pos2 U us ((w1.setCell ⟨w.heap.size + 1, 0, none⟩ (.slice ax bs.length cx)).setCell ⟨w.heap.size + 1, 1, none⟩ (.int .i64 pos2)) := by
  obtain ⟨h1, h2, h3, h4, h5, h6⟩ := h
  have g0 := gb_set w1 (w.heap.size + 1) 0 (.slice ax bs.length cx)
  have n0 := h2.set 0 (.slice ax bs.length cx)
  have g1 := gb_set (w1.setCell ⟨w.heap.size + 1, 0, none⟩ (.slice ax bs.length cx)) (w.heap.size + 1) 1 (.int .i64 pos2)
  have n1 := n0.set 1 (.int .i64 pos2)
  exact ⟨(h1.keepS g0 h2 (by decide)).keepS g1 n0 (by decide), n1, (h3.set_far (by omega) 0 _).set_far (by omega) 1 _, own_keepS (own_keepS h4 g0 h2 (by decide)) g1 n0 (by decide), own_keepS (own_keepS h5 g0 h2 (by decide)) g1 n0 (by decide), gb_set2 h6 (by omega)⟩
theorem hin_new (w : World) (base : Nat) (hs : ByteArray) (a : Option Addr) (n c : Nat) (ax : Option Addr) (cx : Nat) (bs : List Int) (pos : Nat) (h : w.ownsRow base 5 1 (.slice ax bs.length cx) bs.length (bs.map (Value.int .u8))) :
    HIn w base hs a n c ax cx bs pos (.slice none 0 0) [] (((w.alloc (.cells #[.string hs, .slice a n c] 66)).alloc (.cells #[.slice ax bs.length cx, .int .i64 pos] 122)).alloc (.cells #[.slice none 0 0, .int .i64 0] 122)) := by
  have b1 := IsB.new w 66 #[.string hs, .slice a n c]
  have b2 := IsB.new (w.alloc (.cells #[.string hs, .slice a n c] 66)) 122 #[.slice ax bs.length cx, .int .i64 pos]
  have b3 := IsB.new ((w.alloc (.cells #[.string hs, .slice a n c] 66)).alloc (.cells #[.slice ax bs.length cx, .int .i64 pos] 122)) 122 #[.slice none 0 0, .int .i64 0]
  rw [show (w.alloc (.cells #[.string hs, .slice a n c] 66)).heap.size = w.heap.size + 1 by simp] at b2
  rw [show ((w.alloc (.cells #[.string hs, .slice a n c] 66)).alloc (.cells #[.slice ax bs.length cx, .int .i64 pos] 122)).heap.size = w.heap.size + 2 by simp] at b3
  exact ⟨(b1.alloc _).alloc _, b2.alloc _, b3, own_keep0 h (gb_trans (gb_trans (gb_alloc _ _ _) (gb_alloc _ _ _)) (gb_alloc _ _ _)), World.ownsRow_nil _ _ _ _, gb_trans (gb_trans (gb_alloc _ _ _) (gb_alloc _ _ _)) (gb_alloc _ _ _)⟩
/-- The reader where it was or moved, numbers of the call's own, an error code. -/
def RdH (ax : Option Addr) (m cx pos2 : Nat) (us : List Int) (er : Int) (w : World) (e : Ending) (w' : World) : Prop :=
  ∃ v', e = .returned (.tuple #[.agg #[.slice ax m cx, .int .i64 pos2], v', .int .i64 er]) ∧ w.grownBy w' none ∧ UL w' w.heap.size v' us
theorem hs_step {w w1 w2 : World} {base : Nat} {hs : ByteArray} {a : Option Addr} {n c : Nat} {ax : Option Addr} {cx : Nat} {bs : List Int} {pos : Nat} {U : Value} {us : List Int} {p : Addr} {x y z t : Value} {q1 q2 q3 : Addr}
    (h : w1.cell? q1 = some x ∧ w1.cell? q2 = some y ∧ w1.cell? q3 = some t ∧ w1.cell? p = some z ∧ HIn w base hs a n c ax cx bs pos U us w1) (k : w1.grownBy w2 none) :
    w2.cell? q1 = some x ∧ w2.cell? q2 = some y ∧ w2.cell? q3 = some t ∧ w2.cell? p = some z ∧ HIn w base hs a n c ax cx bs pos U us w2 :=
  ⟨cell_grown h.1 k, cell_grown h.2.1 k, cell_grown h.2.2.1 k, cell_grown h.2.2.2.1 k, h.2.2.2.2.step k⟩
theorem hs_row {w w1 : World} {base : Nat} {hs : ByteArray} {a : Option Addr} {n c : Nat} {ax : Option Addr} {cx : Nat} {bs : List Int} {pos : Nat} {U : Value} {us : List Int} {p1 p2 p3 p4 : Prop} (h : p1 ∧ p2 ∧ p3 ∧ p4 ∧ HIn w base hs a n c ax cx bs pos U us w1) : w1.ownsRow base 5 1 (.slice ax bs.length cx) bs.length (bs.map (Value.int .u8)) := h.2.2.2.2.2.2.2.1
theorem nums_take (bs : List Int) (l : List Int) : ∀ (pos k : Nat), k < l.length → (numsB bs pos l).take (k + 1) = (numsB bs pos l).take k ++ [accB bs (pos + sumL (l.take k)) (l.getD k 0).toNat] := by
  intro pos k h
  rw [← nums_at bs l pos k h, List.take_add_one]
  simp [numsB_len, h]
theorem one_cell2 (w : World) (t : TypeId) (x : Value) (n : Nat) (hn : n = w.heap.size) : ∀ (j : Nat) (u : Value), ([x] : List Value)[j]? = some u → (w.alloc (.cells #[x] t)).cell? ((⟨n, 0, none⟩ : Addr).add j) = some u := by
  intro j u hj
  subst hn
  match j, hj with
  | 0, hj => simp at hj; subst hj; simp [Addr.add]
theorem one_one2 (x : Value) (h : x.oneCell' = true) : ∀ u ∈ [x], u.oneCell' = true := by
  intro u hu; simp at hu; subst hu; exact h
theorem alloc_isb2 {w w2 : World} {cs : Array Value} {t : TypeId} (g : (w.drew.alloc (.cells cs t)).grownBy w2 none) : IsB w2 w.heap.size t cs := (IsB.new w.drew t cs).keep0 g
set_option maxRecDepth 100000 in
set_option maxHeartbeats 8000000 in
theorem rreadH_any (w : World) (hs9 : ByteArray) (a : Option Addr) (n c : Nat) (L : List Fld) (h : HdOk w hs9 a n c L) (base : Nat) (ax : Option Addr) (cx : Nat) (bs : List Int) (pos : Nat)
    (hR : w.ownsRow base 5 1 (.slice ax bs.length cx) bs.length (bs.map (Value.int .u8))) (hbase : base ≤ w.heap.size)
    (hb : ∀ b ∈ bs, 0 ≤ b ∧ b ≤ 255) (hbl : bs.length ≤ 60000) (hp : pos ≤ 8 * bs.length) (er : Int) (us : List Int) (pos2 : Nat) (hq : rdH hs9 L bs pos = (er, us, pos2)) :
    Calls Try.prog 113 #[.agg #[.string hs9, .slice a n c], .agg #[.slice ax bs.length cx, .int .i64 pos]] w (RdH ax bs.length cx pos2 us er w) := by
  obtain ⟨i0, hi, hz0, hz1, hz2⟩ := info_parts infoU32h
  have HI := Lib.hid hi
  have HH := Lib.hid h
  have HB := Lib.hid hb
  have HQ := Lib.hid hq
  have P0 := Lib.hid (hin_new w base hs9 a n c ax cx bs pos hR)
  have HC := Lib.hid (fun w' (g : w.grownBy w' none) => rcheck_any w' hs9 a n c L (h.sf.keep0 g) h.few h.nm h.hn)
  have HC0 := Lib.hid (HC.out _ P0.out.2.2.2.2.2)
  have GL := Lib.hid (chk_ok hs9 L)
  have BT := Lib.hid (fun w' (g : w.grownBy w' none) => rbits_any w' hs9 a n c L (h.keep0 g))
  have HY := Lib.hid (bits_ok (hs := hs9) (L := L))
  clear h hR hq hb hi
  unfold rdH at HQ
  obtain ⟨q, hqq⟩ : ∃ q, q = chkH hs9 L := ⟨_, rfl⟩
  rw [← hqq] at HC HC0 HQ GL HY
  obtain ⟨bt, hbt⟩ : ∃ q, q = bitsH hs9 L := ⟨_, rfl⟩
  rw [← hbt] at BT HY
  clear hqq HC hbt
  by_cases q0 : q = 0
  · have GLt := Lib.hid (GL.out q0)
    have HYt := Lib.hid (HY.out q0)
    rw [if_neg (by simp [q0]), ← HYt.out.1] at HQ
    clear GL HY
    subst q0
    go_enter Try.func113, Try.ntmps113
    go_wp2_with fail
    refine HC0.out.mono ?_
    rintro e w2 ⟨rfl, g2⟩
    have P2 := Lib.hid (P0.out.step g2)
    clear g2 HC0 P0
    have RM := Lib.hid (fun w' (g : w2.grownBy w' none) => rrem_any2 w' ax bs.length cx pos hbl hp)
    have BT3 := Lib.hid (fun w' (g : w2.grownBy w' none) => BT.out w' (gb_trans P2.out.2.2.2.2.2 g))
    have KS := Lib.hid (fun (w' : World) (q : w2.grownBy w' none) => (⟨(P2.out.1.keep0 q).cell 0, (P2.out.1.keep0 q).cell 1, (P2.out.2.1.keep0 q).cell 0, (P2.out.2.1.keep0 q).cell 1, q⟩ : (fun w' : World => w'.cell? ⟨w.heap.size, 0, none⟩ = some (.string hs9) ∧ w'.cell? ⟨w.heap.size, 1, none⟩ = some (.slice a n c) ∧ w'.cell? ⟨w.heap.size + 1, 0, none⟩ = some (.slice ax bs.length cx) ∧ w'.cell? ⟨w.heap.size + 1, 1, none⟩ = some (.int .i64 pos) ∧ w2.grownBy w' none) w'))
    go_wp2_with fail
    go_region_held3 (fun w' : World => w'.cell? ⟨w.heap.size, 0, none⟩ = some (.string hs9) ∧ w'.cell? ⟨w.heap.size, 1, none⟩ = some (.slice a n c) ∧ w'.cell? ⟨w.heap.size + 1, 0, none⟩ = some (.slice ax bs.length cx) ∧ w'.cell? ⟨w.heap.size + 1, 1, none⟩ = some (.int .i64 pos) ∧ w2.grownBy w' none)
      (first
        | assumption
        | exact KS.out _ (by repeat' first
                                  | assumption
                                  | exact (And.right (And.right (And.right (And.right (by assumption)))))
                                  | exact World.grownBy.refl _ _
                                  | exact gb_drew _ _
                                  | refine gb_trans ?_ (gb_drew _ _)
                                  | refine gb_trans ?_ (by assumption)))
      (first
        | (go_at_call 132; refine (RM.out _ (by repeat' first
                                  | assumption
                                  | exact (And.right (And.right (And.right (And.right (by assumption)))))
                                  | exact World.grownBy.refl _ _
                                  | exact gb_drew _ _
                                  | refine gb_trans ?_ (gb_drew _ _)
                                  | refine gb_trans ?_ (by assumption))).mono ?_; rintro e w' ⟨rfl, g, _⟩)
        | (go_at_call 131; refine (BT3.out _ (by repeat' first
                                  | assumption
                                  | exact (And.right (And.right (And.right (And.right (by assumption)))))
                                  | exact World.grownBy.refl _ _
                                  | exact gb_drew _ _
                                  | refine gb_trans ?_ (gb_drew _ _)
                                  | refine gb_trans ?_ (by assumption))).mono ?_; rintro e w' ⟨rfl, g⟩))
    have gS : w2.grownBy w' none := And.right (And.right (And.right (And.right (by assumption))))
    rename_i hHeld
    clear hHeld
    generalize w' = w4 at *
    have P4 := Lib.hid (P2.out.step gS)
    have b0 := P4.out.1.cell 0
    have b1 := P4.out.1.cell 1
    have c0 := P4.out.2.1.cell 0
    have c1 := P4.out.2.1.cell 1
    have f0 := P4.out.2.2.1.free 0
    have f1 := P4.out.2.2.1.free 1
    simp at b0 b1 c0 c1
    clear gS KS RM BT3 BT P2
    by_cases hsh : (bs.length : Int) * 8 - pos < bt
    · rw [if_pos hsh] at HQ
      have E := HQ.out
      simp only [Prod.mk.injEq] at E
      obtain ⟨rfl, rfl, rfl⟩ := E
      have d0 := P4.out.2.2.1.cell 0
      have d1 := P4.out.2.2.1.cell 1
      simp at d0 d1
      go_wp2
      have N3 := (P4.out.2.2.1.set 0 (.slice ax bs.length cx)).set 1 (.int .i64 pos)
      have e0 := N3.cell 0
      have e1 := N3.cell 1
      simp at e0 e1
      refine bodyPost_ret (v := .tuple #[.agg #[.slice ax bs.length cx, .int .i64 pos], .slice none 0 0, .int .i64 3]) (by simp [results, Try.results113, go_sem, e0, e1]) rfl ⟨_, rfl, gb_set2 P4.out.2.2.2.2.2 (by omega), World.ownsRow_nil _ _ _ _⟩
    · rw [if_neg hsh] at HQ
      have E := HQ.out
      simp only [Prod.mk.injEq] at E
      obtain ⟨rfl, hus, rfl⟩ := E
      have hfit : pos + sumL (wsL L) ≤ 8 * bs.length := by have := HYt.out.1; have := HYt.out.2.2.2; omega
      have hn12 : n ≤ 12 := by have := GLt.out.2.1; rw [HH.out.sf.len] at this; exact this
      have hwl : (wsL L).length = n := by rw [wsL_len, HH.out.sf.len]
      have HWL := Lib.hid hwl
      have NT := Lib.hid (nums_take bs (wsL L) pos)
      have hlen : (numsB bs pos (wsL L)).length = n := by rw [numsB_len, hwl]
      rw [hus] at NT hlen
      have HLEN := Lib.hid hlen
      have HFIT := Lib.hid hfit
      clear hus hwl hfit HQ hlen
      go_wp2_with fail
      go_loopw [8, 9] (fun u i wr => ∃ k : Nat, k ≤ n ∧ i = .int .i64 k ∧ HIn w base hs9 a n c ax cx bs (pos + sumL ((wsL L).take k)) u (us.take k) wr) (fun _ i _ => n - (intOf i).toNat)
      case atStart => exact ⟨0, Nat.zero_le _, rfl, by simpa [sumL] using P4.out⟩
      case round =>
        obtain ⟨k, hk, rfl, q1⟩ := hrel
        clear P4 b0 b1 c0 c1 f0 f1
        have P4 := Lib.hid q1
        obtain ⟨au, cu, rfl⟩ := UL.shape q1.2.2.2.2.1
        have hul : (us.take k).length = k := by simp; rw [HLEN.out]; omega
        clear q1
        by_cases hlt : k < n
        · have sf := HH.out.sf.keep0 P4.out.2.2.2.2.2
          obtain ⟨ad, rfl⟩ := sf_some sf (by omega)
          obtain ⟨c0, c1⟩ := sf.cells ad rfl k hlt
          have i1 : (k : Int) < n := by omega
          have i9 : (0 : Int) ≤ (k : Int) := by omega
          have hl : k < L.length := by rw [HH.out.sf.len]; exact hlt
          have hkw : k < (wsL L).length := by rw [HWL.out]; exact hlt
          have hgd := GLt.out.2.2.2.2 ((wsL L).getD k 0) (by simp [hkw])
          have hnt := NT.out k hkw
          have hst := sumL_step (wsL L) k hkw
          have hle := sumL_le (wsL L) (k + 1)
          rw [wsL_get L k hl] at hgd hnt hst
          obtain ⟨p, hp⟩ : ∃ p, p = L.getD k fz := ⟨_, rfl⟩
          rw [← hp] at c0 c1 hgd hnt hst
          obtain ⟨v, m⟩ := p
          obtain ⟨x, hx⟩ : ∃ x, x = accB bs (pos + sumL ((wsL L).take k)) m.toNat := ⟨_, rfl⟩
          have HS := Lib.hid (show rdStep bs (pos + sumL ((wsL L).take k)) m = (0, x, pos + sumL ((wsL L).take (k + 1))) by
            rw [rd_good _ _ _ hgd (by have := HFIT.out; simp only at hst; omega), hst, hx, Nat.add_assoc])
          have NT2 := Lib.hid (show us.take (k + 1) = us.take k ++ [x] by rw [hnt, hx])
          have HP := Lib.hid (show pos + sumL ((wsL L).take k) ≤ 8 * bs.length by have := HFIT.out; omega)
          obtain ⟨p1, hp1⟩ : ∃ q, q = pos + sumL ((wsL L).take k) := ⟨_, rfl⟩
          obtain ⟨p2, hp2⟩ : ∃ q, q = pos + sumL ((wsL L).take (k + 1)) := ⟨_, rfl⟩
          rw [← hp1] at HS HP P4
          rw [← hp2] at HS
          have HP2 := Lib.hid hp2
          obtain ⟨ut, hut⟩ : ∃ q, q = us.take k := ⟨_, rfl⟩
          rw [← hut] at hul P4 NT2 ⊢
          have HUL := Lib.hid hul
          have b1 := P4.out.1.cell 1
          simp at b1
          have SB := Lib.hid (show wr.cell? ⟨w.heap.size + 1, 0, none⟩ = some (.slice ax bs.length cx) ∧ wr.cell? ⟨w.heap.size + 1, 1, none⟩ = some (.int .i64 p1) ∧ wr.cell? ⟨w.heap.size, 1, none⟩ = some (.slice (some ad) n c) ∧ wr.cell? ⟨(ad.add (k * 2)).block, (ad.add (k * 2)).off + 1, none⟩ = some (.int .i64 m) ∧ HIn w base hs9 (some ad) n c ax cx bs p1 (.slice au ut.length cu) ut wr from ⟨P4.out.2.1.cell 0, P4.out.2.1.cell 1, b1, c1, P4.out⟩)
          clear hp hl hkw hgd hnt hst hle sf hx hp1 hp2 hut hul c0 c1
          go_wp2_with fail
          have hb0 := SB.out
          go_region_held3 (fun w' => w'.cell? ⟨w.heap.size + 1, 0, none⟩ = some (.slice ax bs.length cx) ∧ w'.cell? ⟨w.heap.size + 1, 1, none⟩ = some (.int .i64 p1) ∧ w'.cell? ⟨w.heap.size, 1, none⟩ = some (.slice (some ad) n c) ∧ w'.cell? ⟨(ad.add (k * 2)).block, (ad.add (k * 2)).off + 1, none⟩ = some (.int .i64 m) ∧ HIn w base hs9 (some ad) n c ax cx bs p1 (.slice au ut.length cu) ut w')
            (first | exact hs_step (by assumption) (by assumption) | exact hs_step (by assumption) (gb_alloc _ _ _) | exact hs_step hb0 (gb_drew _ _) | exact hs_step hb0 (gb_trans (gb_drew _ _) (gb_trans (by assumption) (gb_alloc _ _ _))) | exact hs_step hb0 (gb_trans (gb_drew _ _) (gb_set2 (gb_trans (gb_alloc _ _ _) (by assumption)) (Nat.le_refl _))) | exact hb0 | assumption)
            (first | (go_at_call 133; refine (rread_any _ base ax cx bs p1 m (hs_row (by assumption)) HB.out hbl HP.out 0 x p2 HS.out).mono ?_; rintro e w' ⟨rfl, g⟩; (first | (have yb := alloc_two g; obtain ⟨y0, y1, z0, z1⟩ := yb) | skip)))
          · rename_i hs
            have YB := Lib.hid (IsB.new w' 122 #[.slice ax bs.length cx, .int .i64 p2])
            clear g
            generalize w'.alloc (.cells #[.slice ax bs.length cx, .int .i64 p2] 122) = w6 at *
            generalize w'.heap.size = yb at *
            have PF := Lib.hid hs.2.2.2.2
            have c2 := hs.1
            have c3 := hs.2.1
            have f0 := PF.out.2.1.free 0
            have f1 := PF.out.2.1.free 1
            have y0 : w6.cell? ⟨yb, 0, none⟩ = some (.slice ax bs.length cx) := YB.out.cell 0
            have y1 : w6.cell? ⟨yb, 1, none⟩ = some (.int .i64 p2) := YB.out.cell 1
            have PT := Lib.hid (PF.out.turn p2)
            have PU := Lib.hid (PT.out.step (gb_alloc _ (.cells #[.int .u32 x] 58) none))
            have LE := Lib.hid (show ut.length ≤ 1000 by rw [HUL.out]; omega)
            clear hs hb0 SB PF PT
            go_wp2_with (at_builtin; refine wpList_append_own _ rfl _ _ 40 rfl w.heap.size 58 i0 (.int .u32 0) 1 4 Try.underlying40 HI.out hz0 hz1 hz2 rfl (by decide) _ ut.length (ut.map (Value.int .u32)) rfl PU.out.2.2.2.2.1 ⟨w6.heap.size, 0, none⟩ 1 1 [.int .u32 x] rfl rfl (one_cell2 _ _ _ _ (by simp)) (one_one2 _ rfl) ?c31 ?c41 ?c51 ?_)
            case c31 => have := LE.out; unfold maxLen; omega
            case c41 => have := LE.out; omega
            case c51 => have k := PU.out.2.2.2.2.2.size; first | exact k | simpa using k
            intro v' w5 hown5 hgrow _
            have UF := Lib.hid (show HIn w base hs9 (some ad) n c ax cx bs p2 v' (ut ++ [x]) w5 from ⟨PU.out.1.keep hgrow (fun e => own_ne PU.out.2.2.2.2.1 PU.out.1 (by decide) e.symm), PU.out.2.1.keep hgrow (fun e => own_ne PU.out.2.2.2.2.1 PU.out.2.1 (by decide) e.symm), PU.out.2.2.1.keep hgrow (fun e => own_ne PU.out.2.2.2.2.1 PU.out.2.2.1 (by decide) e.symm), PU.out.2.2.2.1.kept hgrow (own_two PU.out.2.2.2.1 PU.out.2.2.2.2.1 (by decide)), (by unfold UL; simpa using hown5), gb_row PU.out.2.2.2.2.2 hgrow PU.out.2.2.2.2.1⟩)
            clear hown5 hgrow PU
            go_wp2
            go_roundw
            case rel => exact ⟨k + 1, by omega, by go_num, by rw [NT2.out, ← HP2.out]; exact UF.out⟩
            case measure => simp [intOf]; omega
          · rename_i hs
            have YB := Lib.hid (show IsB ((w'.setCell ⟨wr.heap.size, 0, none⟩ (.slice ax bs.length cx)).setCell ⟨wr.heap.size, 1, none⟩ (.int .i64 p2)) wr.heap.size 122 #[.slice ax bs.length cx, .int .i64 p2] from ((alloc_isb2 g).set 0 (.slice ax bs.length cx)).set 1 (.int .i64 p2))
            clear g y0 y1 z0 z1
            generalize (w'.setCell ⟨wr.heap.size, 0, none⟩ (.slice ax bs.length cx)).setCell ⟨wr.heap.size, 1, none⟩ (.int .i64 p2) = w6 at *
            generalize wr.heap.size = yb at *
            have PF := Lib.hid hs.2.2.2.2
            have c2 := hs.1
            have c3 := hs.2.1
            have f0 := PF.out.2.1.free 0
            have f1 := PF.out.2.1.free 1
            have y0 : w6.cell? ⟨yb, 0, none⟩ = some (.slice ax bs.length cx) := YB.out.cell 0
            have y1 : w6.cell? ⟨yb, 1, none⟩ = some (.int .i64 p2) := YB.out.cell 1
            have PT := Lib.hid (PF.out.turn p2)
            have PU := Lib.hid (PT.out.step (gb_alloc _ (.cells #[.int .u32 x] 58) none))
            have LE := Lib.hid (show ut.length ≤ 1000 by rw [HUL.out]; omega)
            clear hs hb0 SB PF PT
            go_wp2_with (at_builtin; refine wpList_append_own _ rfl _ _ 40 rfl w.heap.size 58 i0 (.int .u32 0) 1 4 Try.underlying40 HI.out hz0 hz1 hz2 rfl (by decide) _ ut.length (ut.map (Value.int .u32)) rfl PU.out.2.2.2.2.1 ⟨w6.heap.size, 0, none⟩ 1 1 [.int .u32 x] rfl rfl (one_cell2 _ _ _ _ (by simp)) (one_one2 _ rfl) ?c32 ?c42 ?c52 ?_)
            case c32 => have := LE.out; unfold maxLen; omega
            case c42 => have := LE.out; omega
            case c52 => have k := PU.out.2.2.2.2.2.size; first | exact k | simpa using k
            intro v' w5 hown5 hgrow _
            have UF := Lib.hid (show HIn w base hs9 (some ad) n c ax cx bs p2 v' (ut ++ [x]) w5 from ⟨PU.out.1.keep hgrow (fun e => own_ne PU.out.2.2.2.2.1 PU.out.1 (by decide) e.symm), PU.out.2.1.keep hgrow (fun e => own_ne PU.out.2.2.2.2.1 PU.out.2.1 (by decide) e.symm), PU.out.2.2.1.keep hgrow (fun e => own_ne PU.out.2.2.2.2.1 PU.out.2.2.1 (by decide) e.symm), PU.out.2.2.2.1.kept hgrow (own_two PU.out.2.2.2.1 PU.out.2.2.2.2.1 (by decide)), (by unfold UL; simpa using hown5), gb_row PU.out.2.2.2.2.2 hgrow PU.out.2.2.2.2.1⟩)
            clear hown5 hgrow PU
            go_wp2
            go_roundw
            case rel => exact ⟨k + 1, by omega, by go_num, by rw [NT2.out, ← HP2.out]; exact UF.out⟩
            case measure => simp [intOf]; omega
        · have hke : k = n := by omega
          have EU := Lib.hid (show us.take k = us from List.take_of_length_le (by rw [HLEN.out, hke]; exact Nat.le_refl _))
          have EW := Lib.hid (show (wsL L).take k = wsL L from List.take_of_length_le (by rw [HWL.out, hke]; exact Nat.le_refl _))
          rw [EW.out] at P4
          obtain ⟨ut, hut⟩ : ∃ q, q = us.take k := ⟨_, rfl⟩
          rw [← hut] at P4 hul EU ⊢
          obtain ⟨p2, hp2⟩ : ∃ q, q = pos + sumL (wsL L) := ⟨_, rfl⟩
          rw [← hp2] at P4
          have HP2 := Lib.hid hp2
          have HUL := Lib.hid hul
          clear hut hp2 hul
          have b1 := P4.out.1.cell 1
          have c0 := P4.out.2.1.cell 0
          have c1 := P4.out.2.1.cell 1
          have f0 := P4.out.2.2.1.free 0
          have f1 := P4.out.2.2.1.free 1
          have d0 := P4.out.2.2.1.cell 0
          have d1 := P4.out.2.2.1.cell 1
          simp at b1 c0 c1 d0 d1
          subst hke
          go_wp2
          have N3 := (P4.out.2.2.1.set 0 (.slice ax bs.length cx)).set 1 (.int .i64 p2)
          have e0 := N3.cell 0
          have e1 := N3.cell 1
          simp at e0 e1
          refine bodyPost_ret (v := .tuple #[.agg #[.slice ax bs.length cx, .int .i64 p2], .slice au ut.length cu, .int .i64 0]) (by simp [results, Try.results113, go_sem, e0, e1]) rfl ?_
          rw [← HP2.out, ← EU.out]
          exact ⟨_, rfl, gb_set2 P4.out.2.2.2.2.2 (by omega), own_keepS (own_keepS P4.out.2.2.2.2.1 (gb_set _ _ _ _) P4.out.2.2.1 (by decide)) (gb_set _ _ _ _) (P4.out.2.2.1.set 0 _) (by decide)⟩
  · have d1 : (q == 0) = false := by simp [q0]
    have d2 : (q != 0) = true := by simp [q0]
    rw [if_pos q0] at HQ
    have E := HQ.out
    simp only [Prod.mk.injEq] at E
    obtain ⟨rfl, rfl, rfl⟩ := E
    clear q0 GL HY BT
    go_enter Try.func113, Try.ntmps113
    go_wp2_with fail
    refine HC0.out.mono ?_
    rintro e w2 ⟨rfl, g2⟩
    have P4 := Lib.hid (P0.out.step g2)
    clear g2 P0
    have c0 := P4.out.2.1.cell 0
    have c1 := P4.out.2.1.cell 1
    have f0 := P4.out.2.2.1.free 0
    have f1 := P4.out.2.2.1.free 1
    have d3 := P4.out.2.2.1.cell 0
    have d4 := P4.out.2.2.1.cell 1
    simp at c0 c1 d3 d4
    go_wp2
    have N3 := (P4.out.2.2.1.set 0 (.slice ax bs.length cx)).set 1 (.int .i64 pos)
    have e0 := N3.cell 0
    have e1 := N3.cell 1
    simp at e0 e1
    refine bodyPost_ret (v := .tuple #[.agg #[.slice ax bs.length cx, .int .i64 pos], .slice none 0 0, .int .i64 q]) (by simp [results, Try.results113, go_sem, e0, e1]) rfl ⟨_, rfl, gb_set2 P4.out.2.2.2.2.2 (by omega), World.ownsRow_nil _ _ _ _⟩
end Go.Proofs.Ytglgjkggjpfahaa
end
section
namespace Go.Proofs.Ytglgjkggjpfahaa
open Go.RowKit
set_option linter.unusedVariables false

/-- Changed are at most the state's block and the bytes' block; the bytes lie where they lay, or in a new block. -/
structure GS (s : Nat) (V : Value) (w : World) (V' : Value) (w' : World) : Prop where
  size : w.heap.size ≤ w'.heap.size
  block : ∀ k, k < w.heap.size → k ≠ s → V.ownBlock ≠ some k → w'.heap[k]? = w.heap[k]?
  own : V'.ownBlock = V.ownBlock ∨ ∀ g, V'.ownBlock = some g → w.heap.size ≤ g
theorem GS.refl (s : Nat) (V : Value) (w : World) : GS s V w V w := ⟨Nat.le_refl _, fun _ _ _ _ => rfl, .inl rfl⟩
theorem GS.trans {s : Nat} {A B C : Value} {a b c : World} (h : GS s A a B b) (k : GS s B b C c) : GS s A a C c := by
  refine ⟨Nat.le_trans h.size k.size, fun i hi h1 h2 => ?_, ?_⟩
  · refine (k.block i (Nat.lt_of_lt_of_le hi h.size) h1 ?_).trans (h.block i hi h1 h2)
    rcases h.own with e | e
    · rw [e]; exact h2
    · intro q; have := e i q; omega
  · rcases k.own with e | e
    · rw [e]; exact h.own
    · exact .inr fun g q => Nat.le_trans h.size (e g q)
theorem GS.of0 {s : Nat} {V : Value} {w w2 : World} (k : w.grownBy w2 none) : GS s V w V w2 := ⟨k.size, fun i hi _ _ => k.block i hi (by simp), .inl rfl⟩
theorem GS.ofS {s : Nat} {V V' : Value} {w w2 : World} (k : w.grownBy w2 (some s)) (h : V'.ownBlock = V.ownBlock) : GS s V w V' w2 := ⟨k.size, fun i hi h1 _ => k.block i hi (by intro e; injection e with e; exact h1 e), .inl h⟩
theorem GS.ofV {s : Nat} {V V' : Value} {w w2 : World} (k : w.grownBy w2 V.ownBlock) (h : V'.ownBlock = V.ownBlock ∨ V'.ownBlock = some w.heap.size) : GS s V w V' w2 :=
  ⟨k.size, fun i hi _ h2 => k.block i hi (fun e => h2 e.symm), h.elim .inl fun e => .inr fun g q => by rw [e] at q; injection q with q; omega⟩
def BitS (w : World) (base s : Nat) (V : Value) (L : List Bool) (e : Ending) (w' : World) : Prop := e = .returned (.tuple #[]) ∧ GTh base w w' ∧ ∃ V', WSt w' base s V' L ∧ GS s V w V' w'
def WrS (err : Int) (w : World) (base r s : Nat) (V : Value) (L : List Bool) (e : Ending) (w' : World) : Prop := e = .returned (.int .i64 err) ∧ GTh base w w' ∧ ∃ V', Wtr w' base r s V' L ∧ GS s V w V' w'
theorem bitS_close {w : World} {base s g c n q : Nat} {L : List Bool} {b : Bool} {xs : List Value} {u : Value} (hb : IsB w s 135 #[.slice (some ⟨g, 0, none⟩) n c, .int .i64 L.length])
    (ho : w.ownsRow base 5 1 (.slice (some ⟨g, 0, none⟩) n c) n xs) (hlow : base ≤ s) (hx : xs.set q u = (packB (L ++ [b])).map (Value.int .u8)) (hn : n = (packB (L ++ [b])).length) :
    BitS w base s (.slice (some ⟨g, 0, none⟩) n c) (L ++ [b]) (.returned (.tuple #[])) ((w.setCell ⟨g, q, none⟩ u).setCell ⟨s, 1, none⟩ (.int .i64 ((L.length : Int) + 1))).drew := by
  subst hn
  have hgs : g ≠ s := by
    have k := own_ne ho hb (by decide)
    intro e; subst e; exact k rfl
  have hg := ho.lt g rfl
  obtain ⟨cur, hcur⟩ : ∃ cur, IsB w g 5 cur := by
    rcases ho.2 with ⟨h1, _⟩ | ⟨g2, cap, cur, h1, _, hh, _⟩
    · injection h1 with h1; cases h1
    · injection h1 with h1; injection h1 with h1; injection h1 with h1; subst h1; exact ⟨cur, hh⟩
  have s1 := (ho.stored q u).1
  have b1 : IsB (w.setCell ⟨g, q, none⟩ u) s 135 #[.slice (some ⟨g, 0, none⟩) (packB (L ++ [b])).length c, .int .i64 L.length] := hb.set_far (fun e => hgs e.symm) q u
  have b2 := b1.set 1 (.int .i64 ((L.length : Int) + 1))
  have s2 := own_keepS s1 (gb_set (w.setCell ⟨g, q, none⟩ u) s 1 (.int .i64 ((L.length : Int) + 1))) b1 (by decide)
  rw [hx] at s2
  refine ⟨rfl, ?_, .slice (some ⟨g, 0, none⟩) (packB (L ++ [b])).length c, ⟨?_, ?_, hlow⟩, ?_⟩
  · exact ((GTh.ofRow (gb_set w g q u) hcur (.inl rfl) hg.1).trans (GTh.ofRow (gb_set _ s 1 _) b1 (.inr rfl) hlow)).trans (GTh.of0 (gb_drew _ none))
  · have k : IsB ((w.setCell ⟨g, q, none⟩ u).setCell ⟨s, 1, none⟩ (.int .i64 ((L.length : Int) + 1))).drew s 135 #[.slice (some ⟨g, 0, none⟩) (packB (L ++ [b])).length c, .int .i64 ((L.length : Int) + 1)] := b2
    simpa using k
  · exact s2.drew
  · exact ((GS.ofV (gb_set w g q u) (.inl rfl)).trans (GS.ofS (gb_set _ s 1 _) rfl)).trans (GS.of0 (gb_drew _ none))
theorem bitS_odd (w : World) (base s : Nat) (V : Value) (L : List Bool) (b : Bool) (h : WSt w base s V L) (hn : L.length ≤ 60000) (hr : L.length % 8 ≠ 0) :
    Calls Try.prog 121 #[.pointer (some ⟨s, 0, none⟩), .int .u8 (if b then 1 else 0)] w (BitS w base s V (L ++ [b])) := by
  obtain ⟨g, c, rfl⟩ := own_head h.own (by rw [packB_len]; omega)
  have hl := packB_len L
  have c0 : w.cell? ⟨s, 0, none⟩ = some (.slice (some ⟨g, 0, none⟩) (packB L).length c) := h.sb.cell 0
  have c1 : w.cell? ⟨s, 1, none⟩ = some (.int .i64 L.length) := h.sb.cell 1
  have f1 := h.sb.free 1
  have cd := own_cell h.own (L.length / 8) (by omega)
  rw [packB_get L _ (by omega)] at cd
  have fd := h.own.frozenAt (L.length / 8)
  have hgs : g ≠ s := by
    have := own_ne h.own h.sb (by decide)
    intro e; subst e; exact this rfl
  have hsg : s ≠ g := fun e => hgs e.symm
  have hq8 : ((L.length : Int) % 8 == 0) = false := by simp; omega
  have i1 : (L.length : Int) / 8 < (packB L).length := by omega
  have ro := byteAt_range L (L.length / 8)
  have HB := Lib.hid (byteAt_new L b)
  have HL := Lib.hid hl
  clear hl
  have hv : (0 : Int) ≤ (if b then 1 else 0) ∧ (if b then (1 : Int) else 0) ≤ 1 := by cases b <;> simp
  generalize (if b then (1 : Int) else 0) = v at *
  generalize byteAt L (L.length / 8) = old at *
  go_enter Try.func121, Try.ntmps121
  go_wp2
  go_region
  go_wp2
  go_end0
  have hw : v * 2 ^ (7 - L.length % 8) % 256 = v * 2 ^ (7 - L.length % 8) := by
    have hp := pow_pos' (7 - L.length % 8)
    have hp2 := pow_mono (7 - L.length % 8) 7 (by omega)
    have hv2 : v = 0 ∨ v = 1 := by omega
    rcases hv2 with e | e <;> rw [e] <;> simp at hp2 ⊢ <;> omega
  rw [hw, HB.out]
  refine bitS_close h.sb h.own h.low ?_ ?_
  · rw [packB_same L b hr, List.map_set]
  · rw [packB_same L b hr, List.length_set]

theorem BitS.from {w w2 : World} {base s : Nat} {V V2 : Value} {L : List Bool} {e : Ending} {w' : World} (h : BitS w2 base s V2 L e w') (k : GTh base w w2) (q : GS s V w V2 w2) : BitS w base s V L e w' := by
  obtain ⟨h1, h2, V', h3, h4⟩ := h
  exact ⟨h1, k.trans h2, V', h3, q.trans h4⟩
set_option maxHeartbeats 1000000 in
theorem bitS_even (w : World) (base s : Nat) (V : Value) (L : List Bool) (b : Bool) (h : WSt w base s V L) (hbase : base ≤ w.heap.size) (hn : L.length ≤ 60000) (hr : L.length % 8 = 0) :
    Calls Try.prog 121 #[.pointer (some ⟨s, 0, none⟩), .int .u8 (if b then 1 else 0)] w (BitS w base s V (L ++ [b])) := by
  obtain ⟨i0, hi, hz0, hz1, hz2⟩ := info_parts infoU8
  obtain ⟨a, c, rfl⟩ := own_shape h.own
  have hl := packB_len L
  have c0 : w.cell? ⟨s, 0, none⟩ = some (.slice a (packB L).length c) := h.sb.cell 0
  have c1 : w.cell? ⟨s, 1, none⟩ = some (.int .i64 L.length) := h.sb.cell 1
  have hq8 : ((L.length : Int) % 8 == 0) = true := by simp; omega
  have HB := Lib.hid (byteAt_new L b)
  rw [byteAt_none L hr] at HB
  have HL := Lib.hid hl
  have hl2 : (packB L).length * 8 ≤ L.length := by omega
  clear hl
  have hv : (0 : Int) ≤ (if b then 1 else 0) ∧ (if b then (1 : Int) else 0) ≤ 1 := by cases b <;> simp
  generalize (if b then (1 : Int) else 0) = v at *
  have bs1 := h.sb.alloc (.cells #[.int .u8 0] 5)
  have os1 := h.own.alloc (.cells #[.int .u8 0] 5)
  have hown0 : (Value.slice a (packB L).length c).ownBlock ≠ some s := own_ne h.own h.sb (by decide)
  go_enter Try.func121, Try.ntmps121
  go_wp2_with (at_builtin; refine wpList_append_own_at _ rfl _ _ 37 rfl base 5 i0 (.int .u8 0) 1 1 Try.underlying37 hi hz0 hz1 hz2 rfl (by decide) _ (packB L).length ((packB L).map (Value.int .u8)) rfl os1 ⟨w.heap.size, 0, none⟩ 1 1 [.int .u8 0] rfl rfl ?c1 ?c2 ?c3 ?c4 ?c5 ?_)
  case c1 =>
    intro j u hj
    match j, hj with
    | 0, hj => simp at hj; subst hj; simp [Addr.add]
  case c2 => intro u hu; simp at hu; subst hu; rfl
  case c3 => unfold maxLen; omega
  case c4 => omega
  case c5 => simp; omega
  · intro v' w1 hown hgrow _ hat
    obtain ⟨g, cc, rfl⟩ := own_head hown (by omega)
    have bs2 := bs1.keep hgrow (fun e => hown0 e.symm)
    have k0 : GTh base w (w.alloc (.cells #[.int .u8 0] 5)) := GTh.of0 (gb_alloc _ _ none)
    have k1 : GTh base (w.alloc (.cells #[.int .u8 0] 5)) w1 := GTh.ofOwn hgrow os1
    have bs3 := bs2.set 0 (.slice (some ⟨g, 0, none⟩) ((packB L).length + 1) cc)
    have os3 := own_keepS hown (gb_set w1 s 0 (.slice (some ⟨g, 0, none⟩) ((packB L).length + 1) cc)) bs2 (by decide)
    have k2 : GTh base w1 (w1.setCell ⟨s, 0, none⟩ (.slice (some ⟨g, 0, none⟩) ((packB L).length + 1) cc)) := GTh.ofRow (gb_set w1 s 0 _) bs2 (.inr rfl) h.low
    have K := Lib.hid ((k0.trans k1).trans k2)
    have KQ := Lib.hid (((GS.of0 (gb_alloc _ _ none)).trans (GS.ofV hgrow (by simpa using hat))).trans (GS.ofS (V' := .slice (some ⟨g, 0, none⟩) ((packB L).length + 1) cc) (gb_set w1 s 0 (.slice (some ⟨g, 0, none⟩) ((packB L).length + 1) cc)) rfl))
    have fs := bs2.free 0
    have cs0 : w1.cell? ⟨s, 0, none⟩ = some (.slice a (packB L).length c) := bs2.cell 0
    clear k0 k1 k2 hown hgrow hat hown0 c0 c1 bs1 bs2 os1 hi hz0 hz1 hz2
    go_wp2
    clear fs cs0
    have bs4 : IsB (w1.setCell ⟨s, 0, none⟩ (.slice (some ⟨g, 0, none⟩) ((packB L).length + 1) cc)) s 135 #[.slice (some ⟨g, 0, none⟩) ((packB L).length + 1) cc, .int .i64 L.length] := bs3
    clear bs3
    generalize w1.setCell ⟨s, 0, none⟩ (.slice (some ⟨g, 0, none⟩) ((packB L).length + 1) cc) = w2 at *
    have c0 : w2.cell? ⟨s, 0, none⟩ = some (.slice (some ⟨g, 0, none⟩) ((packB L).length + 1) cc) := bs4.cell 0
    have c1 : w2.cell? ⟨s, 1, none⟩ = some (.int .i64 L.length) := bs4.cell 1
    have f1 := bs4.free 1
    have el : (packB L).length = L.length / 8 := by rw [HL.out]; omega
    have cd : w2.cell? ⟨g, L.length / 8, none⟩ = some (.int .u8 0) := by
      rw [os3.cellAt (L.length / 8) (by omega), ← el]; simp
    have fd := os3.frozenAt (L.length / 8)
    have hgs : g ≠ s := by
      have k := own_ne os3 bs4 (by decide)
      intro e; subst e; exact k rfl
    have hsg : s ≠ g := fun e => hgs e.symm
    have i1 : (L.length : Int) / 8 < (packB L).length + 1 := by omega
    have EL := Lib.hid el
    clear el
    go_region
    go_wp2
    go_end0
    have hw : v * 128 % 256 = v * 128 := by omega
    have hb2 : bits .or .u8 0 (v * 128) = byteAt (L ++ [b]) (L.length / 8) := by
      have k := HB.out
      rw [hr] at k
      exact k
    rw [hw, hb2]
    refine (bitS_close bs4 os3 h.low ?_ ?_).from K.out KQ.out
    · rw [packB_more L b hr, List.map_set, List.map_append]; rfl
    · rw [packB_more L b hr, List.length_set, List.length_append]; rfl
theorem bitS_any (w : World) (base s : Nat) (V : Value) (L : List Bool) (b : Bool) (h : WSt w base s V L) (hbase : base ≤ w.heap.size) (hn : L.length ≤ 60000) :
    Calls Try.prog 121 #[.pointer (some ⟨s, 0, none⟩), .int .u8 (if b then 1 else 0)] w (BitS w base s V (L ++ [b])) := by
  by_cases hr : L.length % 8 = 0
  · exact bitS_even w base s V L b h hbase hn hr
  · exact bitS_odd w base s V L b h hn hr
theorem bitS_call (w : World) (base s : Nat) (V : Value) (L : List Bool) (b : Bool) (h : WSt w base s V L) (hbase : base ≤ w.heap.size) (hn : L.length ≤ 60000) :
    Calls Try.prog 121 #[.pointer (some ⟨s, 0, none⟩), .int .u8 (b2i b)] w (BitS w base s V (L ++ [b])) := bitS_any w base s V L b h hbase hn
set_option maxRecDepth 100000 in
theorem wrS_ok (w : World) (base r s : Nat) (V : Value) (L : List Bool) (v n : Int) (h : Wtr w base r s V L) (hbase : base ≤ w.heap.size) (hn : L.length ≤ 50000) (h1 : 1 ≤ n) (h2 : n ≤ 32) (hf : fitsB v n = true) (k0 : 0 ≤ v) (k1 : v < 4294967296) :
    Calls Try.prog 92 #[.pointer (some ⟨r, 0, none⟩), .int .u32 v, .int .i64 n] w (WrS 0 w base r s V (L ++ bitsOf v n.toNat)) := by
  have hm := (iovalid_any n w)
  rw [show okW n = true by simp [okW, h1, h2]] at hm
  have HM := Lib.hid hm
  have HF := Lib.hid hf
  clear hm hf
  go_enter Try.func92, Try.ntmps92
  go_wp2_with fail
  refine (wmade_yes _ _ _ h.wb).mono ?_
  rintro e w1 ⟨rfl, rfl⟩
  go_wp2_with fail
  refine HM.out.mono ?_
  rintro e w2 ⟨rfl, g2, _⟩
  go_wp2_with fail
  refine (fits_any v n _).mono ?_
  rintro e w5 hr; obtain ⟨rfl, g5⟩ := ret_to (by rw [HF.out]) hr; clear hr
  have g6 := gb_trans g2 (gb_gr g5 none)
  have h3 := h.keep0 g6
  have HG := Lib.hid (show GTh base w w5 from GTh.of0 g6)
  have HGS := Lib.hid (show GS s V w V w5 from GS.of0 g6)
  clear g5 g2 g6
  go_wp2_with fail
  go_loopw [7, 19] (fun _ i wr => ∃ k : Nat, k ≤ n.toNat ∧ i = .int .i64 k ∧ (∃ V2, Wtr wr base r s V2 (L ++ (bitsOf v n.toNat).take k) ∧ GS s V w V2 wr) ∧ GTh base w wr) (fun _ i _ => n.toNat - (intOf i).toNat)
  case atStart => exact ⟨0, Nat.zero_le _, rfl, ⟨V, by simpa using h3, HGS.out⟩, HG.out⟩
  case round =>
    obtain ⟨k, hk, rfl, ⟨V2, hr, hgs⟩, hg⟩ := hrel
    clear h3 h
    by_cases hlt : (k : Int) < n
    · have c5 : wr.cell? ⟨r, 0, none⟩ = some (.pointer (some ⟨s, 0, none⟩)) := hr.wb.cell 0
      have HS := Lib.hid (bitsOf_take v n.toNat k (by omega))
      have HV := Lib.hid (vb_eq v n.toNat k k0 k1)
      have HR := Lib.hid hr
      have HH := Lib.hid hg
      have HZ := Lib.hid (show base ≤ wr.heap.size by have := hg.size; omega)
      have HL := Lib.hid (show (L ++ (bitsOf v n.toNat).take k).length ≤ 60000 by rw [List.length_append, List.length_take, bitsOf_len]; omega)
      have HS2 := Lib.hid (show GS s V w V2 wr.drew from hgs.trans (GS.of0 (gb_drew _ none)))
      clear hr hg hbase hgs
      go_wp2
      have e1 : IntKind.i64.wrap (n - 1) = n - 1 := IntWalk.i64_in _ (by omega)
      have e2 : IntKind.i64.wrap (n - 1 - (k : Int)) = n - 1 - (k : Int) := IntWalk.i64_in _ (by omega)
      have e3 : 0 ≤ n - 1 - (k : Int) := by omega
      have e4 : (n - 1 - (k : Int)).toNat = n.toNat - 1 - k := by omega
      go_still_tail 12, (by kernel_rfl)
      clear e1 e2 e3 e4
      change wpList _ _ _ _ _ wr.drew
      rw [HV.out]
      have hw : WSt wr.drew base s V2 (L ++ (bitsOf v n.toNat).take k) := ⟨HR.out.st.sb, HR.out.st.own.drew, HR.out.st.low⟩
      have hb2 : IsB wr.drew r 137 #[.pointer (some ⟨s, 0, none⟩)] := HR.out.wb
      have hg2 : GTh base w wr.drew := HH.out.trans (GTh.of0 (gb_drew _ none))
      have hz2 : base ≤ wr.drew.heap.size := HZ.out
      clear c5 HR HH HZ
      generalize wr.drew = w3 at *
      have HW := Lib.hid hw
      have HB2 := Lib.hid hb2
      have HG2 := Lib.hid hg2
      clear hw hb2 hg2
      go_wp2_with fail
      refine (bitS_call w3 base s V2 _ (vb v n.toNat k) HW.out hz2 HL.out).mono ?_
      rintro e w4 ⟨rfl, q1, V3, q2, q3⟩
      have Q1 := Lib.hid q1
      have Q2 := Lib.hid q2
      have Q3 := Lib.hid (HS2.out.trans q3)
      clear q1 q2 q3 HS2
      go_wp2
      go_roundw
      case rel =>
        refine ⟨k + 1, by omega, by go_num, ⟨V3, ⟨Q1.out.kind _ _ _ HB2.out (by decide) (by decide), ?_⟩, Q3.out⟩, HG2.out.trans Q1.out⟩
        rw [HS.out, ← List.append_assoc]; exact Q2.out
      case measure => simp [intOf]; omega
    · have EK := Lib.hid (show k = n.toNat by omega)
      go_wp2
      go_ret
      refine ⟨rfl, hg, V2, ?_, hgs⟩
      rw [EK.out, List.take_of_length_le (by rw [bitsOf_len]; exact Nat.le_refl _)] at hr
      exact hr
end Go.Proofs.Ytglgjkggjpfahaa
end
section
namespace Go.Proofs.Ytglgjkggjpfahaa
open Go.RowKit
set_option linter.unusedVariables false

/-- What Write comes to: the error and the bits. -/
def wrH (hs : ByteArray) (L : List Fld) (vals : List Int) (B : List Bool) : Int × List Bool :=
  if ¬ chkH hs L = 0 then (chkH hs L, B) else if ¬ vals.length = L.length then (2, B) else if (pkRun [] (vals.zip (wsL L))).1 = 0 then (0, B ++ (pkRun [] (vals.zip (wsL L))).2) else ((pkRun [] (vals.zip (wsL L))).1, B)
/-- What Pack answers for the fields of a valid header. -/
theorem pack_hd {hs : ByteArray} {L : List Fld} {vals : List Int} (h : chkH hs L = 0) :
    packR vals (wsL L) = if ¬ vals.length = L.length then (2, []) else if (pkRun [] (vals.zip (wsL L))).1 = 0 then (0, packB (pkRun [] (vals.zip (wsL L))).2) else ((pkRun [] (vals.zip (wsL L))).1, []) := by
  obtain ⟨h1, h2, h3, h4, h5⟩ := chk_ok hs L h
  have h6 := (isum_good _ h5).1
  unfold packR
  rw [wsL_len]
  by_cases e : vals.length = L.length
  · rw [if_pos e, if_neg (show ¬ ¬ vals.length = L.length from fun h => h e)]
    by_cases e2 : (pkRun [] (vals.zip (wsL L))).1 = 0
    · rw [if_pos e2, if_pos e2]
      have hl := pkRun_good_len (wsL L) h5 vals [] (by rw [wsL_len]; exact e) e2
      rw [if_pos (by rw [hl]; simp only [List.length_nil]; omega)]
    · rw [if_neg e2, if_neg e2]
  · rw [if_neg e, if_pos e]
theorem pack_len {hs : ByteArray} {L : List Fld} {vals : List Int} (h : chkH hs L = 0) (e : vals.length = L.length) (e2 : (pkRun [] (vals.zip (wsL L))).1 = 0) :
    bytesBits (packB (pkRun [] (vals.zip (wsL L))).2) = (pkRun [] (vals.zip (wsL L))).2 ∧ (packB (pkRun [] (vals.zip (wsL L))).2).length ≤ 48 ∧ (pkRun [] (vals.zip (wsL L))).2.length ≤ 384 := by
  obtain ⟨h1, h2, h3, h4, h5⟩ := chk_ok hs L h
  have h6 := isum_good _ h5
  rw [wsL_len] at h6
  have hl := pkRun_good_len (wsL L) h5 vals [] (by rw [wsL_len]; exact e) e2
  simp only [List.length_nil, Nat.zero_add] at hl
  have hp := packB_len (pkRun [] (vals.zip (wsL L))).2
  refine ⟨list_bits _ (sumL (wsL L) / 8) (by omega), by omega, by omega⟩
theorem byte_ok (x : Int) (h : 0 ≤ x ∧ x ≤ 255) : fitsB x 8 = true := by
  refine decide_eq_true ⟨by omega, by omega, ?_⟩
  show x < 2 ^ 8
  omega
/-- A row of another block than the writer's. -/
theorem own_gs {s : Nat} {V V' : Value} {w w' : World} {b2 n g c : Nat} {e : TypeId} {xs : List Value} (h : w.ownsRow b2 e 1 (.slice (some ⟨g, 0, none⟩) n c) n xs) (k : GS s V w V' w') (h1 : g ≠ s) (h2 : V.ownBlock ≠ some g) : w'.ownsRow b2 e 1 (.slice (some ⟨g, 0, none⟩) n c) n xs := by
  refine ⟨h.1, ?_⟩
  rcases h.2 with q | ⟨g2, cap, cur, q1, q2, q3, q4⟩
  · exact .inl q
  · have x1 := q1
    injection x1 with x1; injection x1 with x1; injection x1 with x1; subst x1
    have hlt : g < w.heap.size := by
      rcases Nat.lt_or_ge g w.heap.size with hlt | hge
      · exact hlt
      · rw [Array.getElem?_eq_none hge] at q3; cases q3
    exact .inr ⟨g, cap, cur, q1, q2, (k.block g hlt h1 h2).trans q3, q4⟩
theorem bytesBits_take (l : List Int) (k : Nat) (h : k < l.length) : bytesBits (l.take (k + 1)) = bytesBits (l.take k) ++ bitsOf (l.getD k 0) 8 := by
  rw [List.take_add_one, bytesBits_app]
  simp [h, bytesBits]
set_option maxRecDepth 100000 in
set_option maxHeartbeats 8000000 in
theorem write_any (W w : World) (hs9 : ByteArray) (a : Option Addr) (n c : Nat) (L : List Fld) (h : HdOk W hs9 a n c L) (base r s : Nat) (V : Value) (B : List Bool) (hW : Below W.heap.size W w) (hb0 : W.heap.size ≤ base) (hbase : base ≤ w.heap.size) (hR : Wtr w base r s V B)
    (a2 : Option Addr) (len2 cap2 : Nat) (vals : List Int) (hv : SlR w a2 len2 cap2 (vals.map (Value.int .u32))) (hv2 : ∀ x ∈ vals, 0 ≤ x ∧ x < 4294967296) (hB : B.length ≤ 40000) (er : Int) (B2 : List Bool) (hq : wrH hs9 L vals B = (er, B2))
    (hkeep : ∀ w', GTh base w w' → SlR w' a2 len2 cap2 (vals.map (Value.int .u32))) :
    Calls Try.prog 62 #[.agg #[.string hs9, .slice a n c], .slice a2 len2 cap2, .pointer (some ⟨r, 0, none⟩)] w (WrQ er w base r s B2) := by
  have HH := Lib.hid h
  have HV2 := Lib.hid hv2
  have HB := Lib.hid hB
  have HQ := Lib.hid hq
  have HK := Lib.hid hkeep
  have HW := Lib.hid (fun (w' : World) (g : GTh base w w') => (show W.grownBy w' none from gb_of_below (hW.trans (Below.mono (g.below hbase) hb0))))
  have A0 := Lib.hid (gb_alloc w (.cells #[.string hs9, .slice a n c] 66) none)
  have R1 := Lib.hid (hR.keep0 A0.out)
  have BX := Lib.hid (IsB.new w 66 #[.string hs9, .slice a n c])
  have HC0 := Lib.hid (check_any _ hs9 a n c L (h.sf.keep0 (HW.out _ (GTh.of0 A0.out))) h.few h.nm h.hn)
  have PK := Lib.hid (pack_hd (hs := hs9) (L := L) (vals := vals))
  have PL := Lib.hid (pack_len (hs := hs9) (L := L) (vals := vals))
  have CK := Lib.hid (chk_ok hs9 L)
  clear h hv hv2 hB hq hkeep hR
  unfold wrH at HQ
  obtain ⟨q, hqq⟩ : ∃ q, q = chkH hs9 L := ⟨_, rfl⟩
  rw [← hqq] at HC0 HQ PK PL CK
  clear hqq
  by_cases q0 : q = 0
  · have PKt := Lib.hid (PK.out q0)
    have PLt := Lib.hid (PL.out q0)
    have CKt := Lib.hid (CK.out q0)
    rw [if_neg (by simp [q0])] at HQ
    clear PK PL CK
    subst q0
    go_enter Try.func62, Try.ntmps62
    go_wp2_with fail
    refine HC0.out.mono ?_
    rintro e w2 ⟨rfl, g2⟩
    have R2 := Lib.hid (R1.out.keep0 g2)
    have BX2 := Lib.hid (BX.out.keep0 g2)
    have G2 := Lib.hid (show GTh base w w2 from GTh.of0 (gb_trans A0.out g2))
    have W0 := Lib.hid (wr_width w2 base r s V B 0 0 R2.out (by decide))
    clear g2 HC0 BX R1
    go_wp2_with fail
    refine W0.out.mono ?_
    rintro e w3 ⟨rfl, t3, V3, r3⟩
    have BX3 := Lib.hid (t3.kind _ _ _ BX2.out (by decide) (by decide))
    have G3 := Lib.hid (G2.out.trans t3)
    have R3 := Lib.hid r3
    have b0 := BX3.out.cell 0
    have b1 := BX3.out.cell 1
    simp at b0 b1
    have HWD := Lib.hid (widths_any w3 hs9 a n c L (HH.out.sf.keep0 (HW.out w3 G3.out)) HH.out.few)
    clear t3 r3 W0 BX2 R2 G2
    go_wp2_with fail
    refine HWD.out.mono ?_
    rintro e w4 ⟨VW, rfl, o4, g4⟩
    obtain ⟨a4, c4, rfl⟩ := o4.shape
    have G4 := Lib.hid (G3.out.trans (GTh.of0 g4))
    have R4 := Lib.hid (R3.out.keep0 g4)
    have hl12 : (wsL L).length ≤ 12 := by rw [wsL_len]; exact CKt.out.2.1
    have HP := Lib.hid (pack_any w4 a2 len2 cap2 vals (wsL L) (HK.out w4 G4.out) a4 _ c4 (o4.slr rfl) (by omega) HV2.out)
    rw [PKt.out] at HP
    clear g4 o4 HWD G3 R3 b0 b1 BX3
    by_cases e1 : vals.length = L.length
    · rw [if_neg (by simp [e1])] at HP HQ
      have PL2 := Lib.hid (PLt.out e1)
      by_cases e2 : (pkRun [] (vals.zip (wsL L))).1 = 0
      · rw [if_pos e2] at HP HQ
        have PL3 := Lib.hid (PL2.out e2)
        have E := HQ.out
        simp only [Prod.mk.injEq] at E
        obtain ⟨rfl, hB2⟩ := E
        obtain ⟨pk, hpk⟩ : ∃ q, q = packB (pkRun [] (vals.zip (wsL L))).2 := ⟨_, rfl⟩
        rw [← hpk] at HP PL3
        have HB2 := Lib.hid (show B2 = B ++ bytesBits pk by rw [PL3.out.1]; exact hB2.symm)
        have HPR := Lib.hid (show ∀ x ∈ pk, 0 ≤ x ∧ x ≤ 255 by rw [hpk]; exact packB_range _)
        have hl48 := PL3.out.2.1
        clear hpk PL3 PL2 hB2 e2 PKt PLt HQ
        go_wp2_with fail
        refine HP.out.mono ?_
        rintro e w5 ⟨V5, rfl, g5, o5, _⟩
        have hsz : ∃ a5 c5, V5 = .slice a5 pk.length c5 := own_shape o5
        obtain ⟨a5, c5, rfl⟩ := hsz
        have g5' := gb_of_below g5
        have G5 := Lib.hid (G4.out.trans (GTh.of0 g5'))
        have R5 := Lib.hid (R4.out.keep0 g5')
        have O5 := Lib.hid o5
        have hs4 : s < w4.heap.size := R4.out.st.sb.lt
        have V4 := Lib.hid (show ∀ g, V3.ownBlock = some g → g < w4.heap.size from fun g e => (R4.out.st.own.lt g e).2)
        clear g5 g5' o5 HP
        go_wp2_with fail
        go_loopw [32] (fun i wr => ∃ k : Nat, k ≤ pk.length ∧ i = .int .i64 k ∧ ∃ V6, Wtr wr base r s V6 (B ++ bytesBits (pk.take k)) ∧ GTh base w wr ∧ GS s V3 w5 V6 wr) (fun i _ => pk.length - (intOf i).toNat)
        case atStart => exact ⟨0, Nat.zero_le _, rfl, V3, by simpa [bytesBits] using R5.out, G5.out, GS.refl _ _ _⟩
        case round =>
          obtain ⟨k, hk, rfl, V6, q1, q2, q3⟩ := hrel
          have R6 := Lib.hid q1
          have G6 := Lib.hid q2
          have S6 := Lib.hid q3
          clear q1 q2 q3
          by_cases hlt : k < pk.length
          · obtain ⟨g, c6, e6⟩ := own_head O5.out (by omega)
            cases e6
            have hg4 := (O5.out.lt g rfl).1
            have o6 := own_gs O5.out S6.out (by omega) (fun e => by have := V4.out g e; omega)
            have c0 := own_cell o6 k hlt
            have hx := HPR.out (pk.getD k 0) (by simp [hlt])
            have BT := Lib.hid (bytesBits_take pk k hlt)
            have hbl := bytesBits_len (pk.take k)
            have htl : (pk.take k).length ≤ 48 := by simp; omega
            have i1 : (k : Int) < pk.length := by omega
            have i0 : (0 : Int) ≤ (k : Int) := by omega
            obtain ⟨x, hxx⟩ : ∃ x, x = pk.getD k 0 := ⟨_, rfl⟩
            rw [← hxx] at c0 hx BT
            have hb6 : base ≤ wr.heap.size := by have := G6.out.size; omega
            have WS := Lib.hid (wrS_ok wr base r s V6 (B ++ bytesBits (pk.take k)) x 8 R6.out hb6 (by have := HB.out; rw [List.length_append, hbl]; omega) (by decide) (by decide) (byte_ok x hx) hx.1 (by omega))
            have hw := show IntKind.u32.wrap x = x from wraps_u32 _ hx.1 (by omega)
            clear o6 hbl htl hxx hb6
            go_wp2_with fail
            refine WS.out.mono ?_
            rintro e w7 ⟨rfl, t7, V7, r7, s7⟩
            have R7 := Lib.hid (show Wtr w7 base r s V7 (B ++ bytesBits (pk.take (k + 1))) by rw [BT.out, ← List.append_assoc]; exact r7)
            have G7 := Lib.hid (G6.out.trans t7)
            have S7 := Lib.hid (S6.out.trans s7)
            clear t7 r7 s7 WS c0
            go_wp2
            go_roundw
            case rel => exact ⟨k + 1, by omega, by go_num, V7, R7.out, G7.out, S7.out⟩
            case measure => simp [intOf]; omega
          · have hke : k = pk.length := by omega
            have RF := Lib.hid (show Wtr wr base r s V6 B2 by
              have := R6.out
              rw [List.take_of_length_le (by omega)] at this
              rw [HB2.out]; exact this)
            have G7 := Lib.hid G6.out
            subst hke
            go_wp2
            go_ret
            exact ⟨rfl, G7.out, V6, RF.out⟩
      · rw [if_neg e2] at HP HQ
        have E := HQ.out
        simp only [Prod.mk.injEq] at E
        obtain ⟨rfl, rfl⟩ := E
        obtain ⟨q, hqq⟩ : ∃ q, q = (pkRun [] (vals.zip (wsL L))).1 := ⟨_, rfl⟩
        rw [← hqq] at HP e2
        have HQQ := Lib.hid hqq
        have d1 : (q == 0) = false := by simp [e2]
        have d2 : (q != 0) = true := by simp [e2]
        clear PL2 PKt PLt HQ e2 hqq
        go_wp2_with fail
        refine HP.out.mono ?_
        rintro e w5 ⟨V5, rfl, g5, o5, _⟩
        have g5' := gb_of_below g5
        have G5 := Lib.hid (G4.out.trans (GTh.of0 g5'))
        have R5 := Lib.hid (R4.out.keep0 g5')
        clear g5 g5' o5 HP
        go_wp2
        go_ret
        exact ⟨by rw [← HQQ.out] <;> rfl, G5.out, V3, R5.out⟩
    · rw [if_pos e1] at HP HQ
      have E := HQ.out
      simp only [Prod.mk.injEq] at E
      obtain ⟨rfl, rfl⟩ := E
      clear PKt PLt HQ e1
      go_wp2_with fail
      refine HP.out.mono ?_
      rintro e w5 ⟨V5, rfl, g5, o5, _⟩
      have g5' := gb_of_below g5
      have G5 := Lib.hid (G4.out.trans (GTh.of0 g5'))
      have R5 := Lib.hid (R4.out.keep0 g5')
      clear g5 g5' o5 HP
      go_wp2
      go_ret
      exact ⟨rfl, G5.out, V3, R5.out⟩
  · have d1 : (q == 0) = false := by simp [q0]
    have d2 : (q != 0) = true := by simp [q0]
    rw [if_pos q0] at HQ
    have E := HQ.out
    simp only [Prod.mk.injEq] at E
    obtain ⟨rfl, rfl⟩ := E
    clear q0 PK PL CK
    go_enter Try.func62, Try.ntmps62
    go_wp2_with fail
    refine HC0.out.mono ?_
    rintro e w2 ⟨rfl, g2⟩
    have G2 := Lib.hid (show GTh base w w2 from GTh.of0 (gb_trans A0.out g2))
    have R2 := Lib.hid (R1.out.keep0 g2)
    clear g2
    go_wp2
    go_ret
    exact ⟨rfl, G2.out, V, R2.out⟩
end Go.Proofs.Ytglgjkggjpfahaa
end
section
namespace Go.Proofs.Ytglgjkggjpfahaa
open Go.RowKit
set_option linter.unusedVariables false

/-- What the reference's Write holds: its header, its writer, its result, the writer so far, the bits of both. -/
def WIn (w : World) (base : Nat) (hs : ByteArray) (a : Option Addr) (n c : Nat) (aw : Option Addr) (cw : Nat) (B : List Bool) (xb : Nat) (am : Option Addr) (cm : Nat) (M : List Bool) (w' : World) : Prop :=
  IsB w' w.heap.size 66 #[.string hs, .slice a n c] ∧ IsB w' (w.heap.size + 1) 61 #[.slice aw B.length cw] ∧ IsB w' (w.heap.size + 2) 61 #[.slice none 0 0] ∧
  IsB w' xb 61 #[.slice am M.length cm] ∧ BRow w' base (.slice aw B.length cw) B ∧ BRow w' base (.slice am M.length cm) M ∧ w.grownBy w' none
theorem WIn.step {w w1 w2 : World} {base : Nat} {hs : ByteArray} {a : Option Addr} {n c : Nat} {aw : Option Addr} {cw : Nat} {B : List Bool} {xb : Nat} {am : Option Addr} {cm : Nat} {M : List Bool} (h : WIn w base hs a n c aw cw B xb am cm M w1) (k : w1.grownBy w2 none) : WIn w base hs a n c aw cw B xb am cm M w2 :=
  ⟨h.1.keep0 k, h.2.1.keep0 k, h.2.2.1.keep0 k, h.2.2.2.1.keep0 k, own_keep0 h.2.2.2.2.1 k, own_keep0 h.2.2.2.2.2.1 k, gb_trans h.2.2.2.2.2.2 k⟩
theorem win_new (w : World) (base : Nat) (hs : ByteArray) (a : Option Addr) (n c : Nat) (aw : Option Addr) (cw : Nat) (B : List Bool) (h : BRow w base (.slice aw B.length cw) B) :
    WIn w base hs a n c aw cw B (w.heap.size + 1) aw cw B (((w.alloc (.cells #[.string hs, .slice a n c] 66)).alloc (.cells #[.slice aw B.length cw] 61)).alloc (.cells #[.slice none 0 0] 61)) := by
  have b1 := IsB.new w 66 #[.string hs, .slice a n c]
  have b2 := IsB.new (w.alloc (.cells #[.string hs, .slice a n c] 66)) 61 #[.slice aw B.length cw]
  have b3 := IsB.new ((w.alloc (.cells #[.string hs, .slice a n c] 66)).alloc (.cells #[.slice aw B.length cw] 61)) 61 #[.slice none 0 0]
  rw [show (w.alloc (.cells #[.string hs, .slice a n c] 66)).heap.size = w.heap.size + 1 by simp] at b2
  rw [show ((w.alloc (.cells #[.string hs, .slice a n c] 66)).alloc (.cells #[.slice aw B.length cw] 61)).heap.size = w.heap.size + 2 by simp] at b3
  have g : w.grownBy (((w.alloc (.cells #[.string hs, .slice a n c] 66)).alloc (.cells #[.slice aw B.length cw] 61)).alloc (.cells #[.slice none 0 0] 61)) none := gb_trans (gb_trans (gb_alloc _ _ _) (gb_alloc _ _ _)) (gb_alloc _ _ _)
  exact ⟨(b1.alloc _).alloc _, b2.alloc _, b3, b2.alloc _, own_keep0 h g, own_keep0 h g, g⟩
theorem w5_step {w w1 w2 : World} {base : Nat} {hs : ByteArray} {a : Option Addr} {n c : Nat} {aw : Option Addr} {cw : Nat} {B : List Bool} {xb : Nat} {am : Option Addr} {cm : Nat} {M : List Bool} {q1 q2 q3 q4 : Addr} {x y z t : Value}
    (h : w1.cell? q1 = some x ∧ w1.cell? q2 = some y ∧ w1.cell? q3 = some z ∧ w1.cell? q4 = some t ∧ WIn w base hs a n c aw cw B xb am cm M w1) (k : w1.grownBy w2 none) :
    w2.cell? q1 = some x ∧ w2.cell? q2 = some y ∧ w2.cell? q3 = some z ∧ w2.cell? q4 = some t ∧ WIn w base hs a n c aw cw B xb am cm M w2 :=
  ⟨cell_grown h.1 k, cell_grown h.2.1 k, cell_grown h.2.2.1 k, cell_grown h.2.2.2.1 k, h.2.2.2.2.step k⟩
theorem w5_row {w w1 : World} {base : Nat} {hs : ByteArray} {a : Option Addr} {n c : Nat} {aw : Option Addr} {cw : Nat} {B : List Bool} {xb : Nat} {am : Option Addr} {cm : Nat} {M : List Bool} {p1 p2 p3 p4 : Prop} (h : p1 ∧ p2 ∧ p3 ∧ p4 ∧ WIn w base hs a n c aw cw B xb am cm M w1) : BRow w1 base (.slice am M.length cm) M := h.2.2.2.2.2.2.2.2.2.1
theorem w5_size {w w1 : World} {base : Nat} {hs : ByteArray} {a : Option Addr} {n c : Nat} {aw : Option Addr} {cw : Nat} {B : List Bool} {xb : Nat} {am : Option Addr} {cm : Nat} {M : List Bool} {p1 p2 p3 p4 : Prop} (h : p1 ∧ p2 ∧ p3 ∧ p4 ∧ WIn w base hs a n c aw cw B xb am cm M w1) (hb : base ≤ w.heap.size) : base ≤ w1.heap.size := Nat.le_trans hb h.2.2.2.2.2.2.2.2.2.2.size
theorem alloc_one2 {w w2 : World} {x : Value} {t : TypeId} (g : (w.drew.alloc (.cells #[x] t)).grownBy w2 none) : w2.cell? ⟨w.heap.size, 0, none⟩ = some x ∧ w2.frozen? ⟨w.heap.size, 0, none⟩ = false ∧ IsB w2 w.heap.size t #[x] := by
  have h : IsB w2 w.heap.size t #[x] := (IsB.new w.drew t #[x]).keep0 g
  exact ⟨h.cell 0, h.free 0, h⟩
theorem w5_fin1 {w w1 : World} {base : Nat} {L1 : List Bool} {v : Value} {o : Obj} {P : World → Prop} (b : BRow w1 base v L1) (h : P (w1.alloc o)) : BRow (w1.alloc o) base v L1 := own_keep0 b (gb_alloc _ _ _)
theorem w5_fin2 {w1 : World} {base g : Nat} {L1 : List Bool} {v u : Value} {cs : Array Value} (b : BRow w1 base v L1) (yb : IsB w1 g 61 cs) : BRow (w1.setCell ⟨g, 0, none⟩ u) base v L1 := own_keepS b (gb_set _ _ _ _) yb (by decide)
theorem wrH_run {hs : ByteArray} {L : List Fld} {vals : List Int} {B : List Bool} (h : chkH hs L = 0) (e : vals.length = L.length) (er : Int) (B1 : List Bool) (hq : pkRun B (vals.zip (wsL L)) = (er, B1)) : wrH hs L vals B = if er = 0 then (0, B1) else (er, B) := by
  have k := pkRun_app B (vals.zip (wsL L)) []
  rw [List.append_nil, hq] at k
  unfold wrH
  rw [if_neg (show ¬ ¬ chkH hs L = 0 from fun x => x h), if_neg (show ¬ ¬ vals.length = L.length from fun x => x e), ← k.1]
  by_cases e2 : er = 0
  · rw [if_pos e2, if_pos e2, ← k.2 (by rw [← k.1]; exact e2)]
  · rw [if_neg e2, if_neg e2]
set_option maxRecDepth 100000 in
set_option maxHeartbeats 8000000 in
theorem rwriteH_any (w : World) (hs9 : ByteArray) (a : Option Addr) (n c : Nat) (L : List Fld) (h : HdOk w hs9 a n c L) (base : Nat) (aw : Option Addr) (cw : Nat) (B : List Bool) (hbase : base ≤ w.heap.size) (hR : BRow w base (.slice aw B.length cw) B)
    (a2 : Option Addr) (len2 cap2 : Nat) (vals : List Int) (hv : SlR w a2 len2 cap2 (vals.map (Value.int .u32))) (hv2 : ∀ x ∈ vals, 0 ≤ x ∧ x < 4294967296) (hB : B.length ≤ 10000) (er : Int) (B2 : List Bool) (hq : wrH hs9 L vals B = (er, B2)) :
    Calls Try.prog 27 #[.agg #[.string hs9, .slice a n c], .slice a2 len2 cap2, .agg #[.slice aw B.length cw]] w (RWr er base B2 w) := by
  have hvl : vals.length = len2 := by simpa using hv.1
  subst hvl
  have HH := Lib.hid h
  have HV := Lib.hid hv
  have HV2 := Lib.hid hv2
  have HB := Lib.hid hB
  have HQ := Lib.hid hq
  have P0 := Lib.hid (win_new w base hs9 a n c aw cw B hR)
  have HC0 := Lib.hid (rcheck_any _ hs9 a n c L (h.sf.keep0 P0.out.2.2.2.2.2.2) h.few h.nm h.hn)
  have CK := Lib.hid (chk_ok hs9 L)
  have RUN := Lib.hid (wrH_run (hs := hs9) (L := L) (vals := vals) (B := B))
  have HE := Lib.hid (show wrH hs9 L vals B = if ¬ chkH hs9 L = 0 then (chkH hs9 L, B) else if ¬ vals.length = L.length then (2, B) else if (pkRun [] (vals.zip (wsL L))).1 = 0 then (0, B ++ (pkRun [] (vals.zip (wsL L))).2) else ((pkRun [] (vals.zip (wsL L))).1, B) from rfl)
  have hll := h.sf.len
  have HLL := Lib.hid hll
  clear h hv hv2 hB hq hR
  rw [HQ.out, hll] at HE
  obtain ⟨q, hqq⟩ : ∃ q, q = chkH hs9 L := ⟨_, rfl⟩
  rw [← hqq] at HC0 HE CK RUN
  clear hqq hll
  by_cases q0 : q = 0
  · have CKt := Lib.hid (CK.out q0)
    have RUNt := Lib.hid (RUN.out q0)
    rw [if_neg (show ¬ ¬ q = 0 from fun x => x q0)] at HE
    clear CK RUN
    subst q0
    go_enter Try.func27, Try.ntmps27
    go_wp2_with fail
    refine HC0.out.mono ?_
    rintro e w2 ⟨rfl, g2⟩
    have P4 := Lib.hid (P0.out.step g2)
    have b0 := P4.out.1.cell 0
    have b1 := P4.out.1.cell 1
    have c0 := P4.out.2.1.cell 0
    have f0 := P4.out.2.2.1.free 0
    have d0 := P4.out.2.2.1.cell 0
    simp at b0 b1 c0 d0
    clear g2 P0 HC0
    by_cases e1 : vals.length = n
    · have hne : ((vals.length : Int) != n) = false := by rw [bne_eq_false_iff_eq]; omega
      rw [if_neg (show ¬ ¬ vals.length = n from fun x => x e1)] at HE
      obtain ⟨er1, B1, hpk⟩ : ∃ x y, pkRun B (vals.zip (wsL L)) = (x, y) := ⟨_, _, rfl⟩
      have HPK := Lib.hid hpk
      have HQ2 := Lib.hid (show (er, B2) = if er1 = 0 then (0, B1) else (er1, B) by rw [← HQ.out]; exact RUNt.out (by rw [HLL.out]; exact e1) er1 B1 hpk)
      have hn12 : n ≤ 12 := by have := CKt.out.2.1; rw [HLL.out] at this; exact this
      have hwl : (wsL L).length = n := by rw [wsL_len, HLL.out]
      have HWL := Lib.hid hwl
      have E1 := Lib.hid e1
      clear hpk hwl RUNt HE e1
      go_wp2_with fail
      have N1 := Lib.hid (show WIn w base hs9 a n c aw cw B w2.heap.size aw cw B (w2.alloc (.cells #[.slice aw B.length cw] 61)) from ⟨P4.out.1.alloc _, P4.out.2.1.alloc _, P4.out.2.2.1.alloc _, IsB.new _ _ _, own_keep0 P4.out.2.2.2.2.1 (gb_alloc _ _ _), own_keep0 P4.out.2.2.2.2.1 (gb_alloc _ _ _), gb_trans P4.out.2.2.2.2.2.2 (gb_alloc _ _ _)⟩)
      have XB := Lib.hid (show w.heap.size + 2 < w2.heap.size from P4.out.2.2.1.lt)
      generalize w2.heap.size = xb at *
      clear P4 b0 b1 c0 d0 f0
      go_loopw [10] (fun i wr => ∃ (k : Nat) (M : List Bool) (am : Option Addr) (cm : Nat), k ≤ n ∧ i = .int .i64 k ∧ WIn w base hs9 a n c aw cw B xb am cm M wr ∧ pkRun M ((vals.zip (wsL L)).drop k) = (er1, B1) ∧ M.length ≤ B.length + 32 * k) (fun i _ => n - (intOf i).toNat)
      case atStart => exact ⟨0, B, aw, cw, Nat.zero_le _, rfl, N1.out, HPK.out, by omega⟩
      case round =>
        obtain ⟨k, M, am, cm, hk, rfl, hp, hq1, hl1⟩ := hrel
        clear N1
        have P := Lib.hid hp
        have HQ1 := Lib.hid hq1
        have HLEN := Lib.hid (show M.length ≤ 50000 by have := HB.out; omega)
        have HL1 := Lib.hid hl1
        clear hp hq1 hl1
        by_cases hlt : k < n
        · cases a2 with
          | none => exact absurd (HV.out.2.1 rfl).1 (by have := E1.out; omega)
          | some ad =>
          have sf := HH.out.sf.keep0 P.out.2.2.2.2.2.2
          obtain ⟨ad2, rfl⟩ := sf_some sf (by omega)
          obtain ⟨c0, c1⟩ := sf.cells ad2 rfl k hlt
          have hkv : (k : Int) < vals.length := by have := E1.out; omega
          have i1 : (k : Int) < n := by omega
          have i9 : (0 : Int) ≤ (k : Int) := by omega
          have hl : k < L.length := by rw [HLL.out]; exact hlt
          have hc1 := (HV.out.keep0 P.out.2.2.2.2.2.2).cellAt k (by have := E1.out; omega)
          have hx := HV2.out (vals.getD k 0) (by rw [List.getD_eq_getElem?_getD, List.getElem?_eq_getElem (by have := E1.out; omega)]; exact List.getElem_mem _)
          have hz := HQ1.out
          rw [zip_drop vals (wsL L) k (by have := E1.out; omega) (by rw [HWL.out]; exact hlt), wsL_get L k hl] at hz
          obtain ⟨p, hp⟩ : ∃ p, p = L.getD k fz := ⟨_, rfl⟩
          rw [← hp] at c0 c1 hz
          obtain ⟨v, nk⟩ := p
          generalize vals.getD k 0 = x at *
          obtain ⟨e1, L1, hs⟩ : ∃ e1 L1, wrStep M x nk = (e1, L1) := ⟨_, _, rfl⟩
          have HS := Lib.hid hs
          have HX := Lib.hid hx
          have hlen1 := pkRun_len M x nk
          rw [hs] at hlen1
          rw [pkRun, hs] at hz
          have HZ := Lib.hid hz
          have LE1 := Lib.hid hlen1
          have b1 := P.out.1.cell 1
          simp at b1
          have SB := Lib.hid (show wr.cell? ⟨xb, 0, none⟩ = some (.slice am M.length cm) ∧ wr.cell? (ad.add k) = some (.int .u32 x) ∧ wr.cell? ⟨w.heap.size, 1, none⟩ = some (.slice (some ad2) n c) ∧ wr.cell? ⟨(ad2.add (k * 2)).block, (ad2.add (k * 2)).off + 1, none⟩ = some (.int .i64 nk) ∧ WIn w base hs9 (some ad2) n c aw cw B xb am cm M wr from ⟨P.out.2.2.2.1.cell 0, hc1, b1, c1, P.out⟩)
          clear hz hs hx hlen1 hc1 c0 c1 P HQ1 hp hl sf
          go_wp2_with fail
          have hb0 := SB.out
          go_region_held3 (fun w' => w'.cell? ⟨xb, 0, none⟩ = some (.slice am M.length cm) ∧ w'.cell? (ad.add k) = some (.int .u32 x) ∧ w'.cell? ⟨w.heap.size, 1, none⟩ = some (.slice (some ad2) n c) ∧ w'.cell? ⟨(ad2.add (k * 2)).block, (ad2.add (k * 2)).off + 1, none⟩ = some (.int .i64 nk) ∧ WIn w base hs9 (some ad2) n c aw cw B xb am cm M w')
            (first | exact w5_step (by assumption) (by assumption) | exact w5_step (by assumption) (gb_alloc _ _ _) | exact w5_step hb0 (gb_drew _ _) | exact w5_step hb0 (gb_trans (gb_drew _ _) (gb_trans (by assumption) (gb_alloc _ _ _))) | exact w5_step hb0 (gb_trans (gb_drew _ _) (gb_set1 (gb_trans (gb_alloc _ _ _) (by assumption)) (Nat.le_refl _))) | exact hb0 | assumption)
            (first | (go_at_call 54; refine (rwrite_any _ base am cm M x nk (w5_row (by assumption)) (w5_size (by assumption) hbase) HLEN.out HX.out.1 HX.out.2 e1 L1 HS.out).mono ?_; rintro e w' ⟨v', rfl, g, o⟩; obtain ⟨a1, c1, rfl⟩ := own_shape o; (first | (have yb := alloc_one2 g; obtain ⟨y0, z0, yb⟩ := yb) | skip)))
          all_goals
            rename_i hs
            first | (have OF := w5_fin2 o yb (u := .slice a1 L1.length c1)) | (have OF := own_keep0 o (gb_alloc _ (.cells #[.slice a1 L1.length c1] 61) none))
            have PF := Lib.hid hs.2.2.2.2
            have OG := Lib.hid OF
            have c0 := hs.1
            have f0 := PF.out.2.2.2.1.free 0
            have f1 := PF.out.2.2.1.free 0
            have c2 := PF.out.2.1.cell 0
            have d1 := PF.out.2.2.1.cell 0
            simp at c2 d1
            clear hs OF hb0 SB o g b1
            by_cases he : e1 = 0
            · subst he
              have HZ3 := Lib.hid (show pkRun L1 ((vals.zip (wsL L)).drop (k + 1)) = (er1, B1) by have := HZ.out; rwa [if_pos rfl] at this)
              go_wp2
              go_roundw
              case rel => exact ⟨k + 1, L1, a1, c1, by omega, by go_num, ⟨PF.out.1.keepS (gb_set _ _ _ _) PF.out.2.2.2.1 (by decide), PF.out.2.1.set_far (by have := XB.out; omega) 0 _, PF.out.2.2.1.set_far (by have := XB.out; omega) 0 _, PF.out.2.2.2.1.set 0 _, own_keepS PF.out.2.2.2.2.1 (gb_set _ _ _ _) PF.out.2.2.2.1 (by decide), own_keepS OG.out (gb_set _ _ _ _) PF.out.2.2.2.1 (by decide), gb_set1 PF.out.2.2.2.2.2.2 (by have := XB.out; omega)⟩, HZ3.out, by have := LE1.out; have := HL1.out; omega⟩
              case measure => simp [intOf]; omega
            · have HZ3 := Lib.hid (show e1 = er1 ∧ L1 = B1 by have := HZ.out; rw [if_neg he] at this; simpa using this)
              have hne2 : (e1 != 0) = true := by simpa using he
              have HQ3 := Lib.hid (show er = e1 ∧ B2 = B by have := HQ2.out; rw [← HZ3.out.1, if_neg he] at this; simpa using this)
              have N3 := PF.out.2.2.1.set 0 (.slice aw B.length cw)
              have g0 := N3.cell 0
              simp at g0
              have FIN := Lib.hid (show RWr er base B2 w (.returned (.tuple #[.agg #[.slice aw B.length cw], .int .i64 e1])) _ from ⟨_, by rw [HQ3.out.1], gb_set1 (g := w.heap.size + 2) (i := 0) (u := .slice aw B.length cw) PF.out.2.2.2.2.2.2 (by omega), by rw [HQ3.out.2]; exact own_keepS PF.out.2.2.2.2.1 (gb_set _ _ _ _) PF.out.2.2.1 (by decide)⟩)
              clear he
              go_wp2
              refine bodyPost_ret (v := .tuple #[.agg #[.slice aw B.length cw], .int .i64 e1]) (by simp [results, Try.results27, go_sem, g0]) rfl FIN.out
        · have hkk : ¬ (k : Int) < vals.length := by have := E1.out; omega
          have hke : k = n := by omega
          have HZ3 := Lib.hid (show 0 = er1 ∧ M = B1 by have := HQ1.out; rw [zip_end vals (wsL L) k (by rw [HWL.out]; omega)] at this; simpa [pkRun] using this)
          have HQ3 := Lib.hid (show er = 0 ∧ B2 = M by have := HQ2.out; rw [← HZ3.out.1, if_pos rfl, ← HZ3.out.2] at this; simpa using this)
          have c0 := P.out.2.2.2.1.cell 0
          have f1 := P.out.2.2.1.free 0
          have d1 := P.out.2.2.1.cell 0
          simp at c0 d1
          have N3 := P.out.2.2.1.set 0 (.slice am M.length cm)
          have g0 := N3.cell 0
          simp at g0
          have FIN := Lib.hid (show RWr er base B2 w (.returned (.tuple #[.agg #[.slice am M.length cm], .int .i64 0])) _ from ⟨_, by rw [HQ3.out.1], gb_set1 (g := w.heap.size + 2) (i := 0) (u := .slice am M.length cm) P.out.2.2.2.2.2.2 (by omega), by rw [HQ3.out.2]; exact own_keepS P.out.2.2.2.2.2.1 (gb_set _ _ _ _) P.out.2.2.1 (by decide)⟩)
          clear HQ3 HZ3 HQ2
          go_wp2
          refine bodyPost_ret (v := .tuple #[.agg #[.slice am M.length cm], .int .i64 0]) (by simp [results, Try.results27, go_sem, g0]) rfl FIN.out
    · have hne : ((vals.length : Int) != n) = true := by rw [bne_iff_ne]; omega
      rw [if_pos e1] at HE
      have E := HE.out
      simp only [Prod.mk.injEq] at E
      obtain ⟨rfl, rfl⟩ := E
      have N3 := P4.out.2.2.1.set 0 (.slice aw B2.length cw)
      have g0 := N3.cell 0
      simp at g0
      have FIN := Lib.hid (show RWr 2 base B2 w (.returned (.tuple #[.agg #[.slice aw B2.length cw], .int .i64 2])) _ from ⟨_, rfl, gb_set1 (g := w.heap.size + 2) (i := 0) (u := .slice aw B2.length cw) P4.out.2.2.2.2.2.2 (by omega), own_keepS P4.out.2.2.2.2.1 (gb_set _ _ _ _) P4.out.2.2.1 (by decide)⟩)
      clear e1 HQ HE RUNt
      go_wp2
      refine bodyPost_ret (v := .tuple #[.agg #[.slice aw B2.length cw], .int .i64 2]) (by simp [results, Try.results27, go_sem, g0]) rfl FIN.out
  · have d1 : (q == 0) = false := by simp [q0]
    have d2 : (q != 0) = true := by simp [q0]
    rw [if_pos q0] at HE
    have E := HE.out
    simp only [Prod.mk.injEq] at E
    obtain ⟨rfl, rfl⟩ := E
    clear q0 RUN CK HE HQ
    go_enter Try.func27, Try.ntmps27
    go_wp2_with fail
    refine HC0.out.mono ?_
    rintro e w2 ⟨rfl, g2⟩
    have P4 := Lib.hid (P0.out.step g2)
    have c0 := P4.out.2.1.cell 0
    have f0 := P4.out.2.2.1.free 0
    have d3 := P4.out.2.2.1.cell 0
    simp at c0 d3
    clear g2 P0
    have N3 := P4.out.2.2.1.set 0 (.slice aw B2.length cw)
    have g0 := N3.cell 0
    simp at g0
    have FIN := Lib.hid (show RWr er base B2 w (.returned (.tuple #[.agg #[.slice aw B2.length cw], .int .i64 er])) _ from ⟨_, rfl, gb_set1 (g := w.heap.size + 2) (i := 0) (u := .slice aw B2.length cw) P4.out.2.2.2.2.2.2 (by omega), own_keepS P4.out.2.2.2.2.1 (gb_set _ _ _ _) P4.out.2.2.1 (by decide)⟩)
    go_wp2
    refine bodyPost_ret (v := .tuple #[.agg #[.slice aw B2.length cw], .int .i64 er]) (by simp [results, Try.results27, go_sem, g0]) rfl FIN.out
end Go.Proofs.Ytglgjkggjpfahaa
end
section
namespace Go.Proofs.Ytglgjkggjpfahaa
open Go.RowKit
set_option linter.unusedVariables false

def bitsL : List (Int × Int) → List Bool
  | [] => []
  | (v, n) :: t => bitsOf v n.toNat ++ bitsL t
/-- Every value fits its width. -/
def fitL (ps : List (Int × Int)) : Prop := ∀ p ∈ ps, (1 ≤ p.2 ∧ p.2 ≤ 32) ∧ 0 ≤ p.1 ∧ p.1 < 2 ^ p.2.toNat
theorem pkRun_fit (ps : List (Int × Int)) (h : fitL ps) : ∀ L, pkRun L ps = (0, L ++ bitsL ps) := by
  induction ps with
  | nil => intro L; simp [pkRun, bitsL]
  | cons p t ih =>
    intro L
    obtain ⟨v, n⟩ := p
    obtain ⟨hn, h0, h1⟩ := h (v, n) (by simp)
    unfold pkRun
    rw [wr_good L v n hn h1]
    simp only [if_true]
    rw [ih (fun q hq => h q (by simp [hq]))]
    simp [bitsL]
theorem acc_mid (pre post : List Bool) (v : Int) (n : Nat) (h0 : 0 ≤ v) (h1 : v < 2 ^ n) : accB (packB (pre ++ bitsOf v n ++ post)) pre.length n = v := by
  refine acc_of _ _ _ _ h0 h1 ?_
  intro i hi
  have hlen : pre.length + i < (pre ++ bitsOf v n ++ post).length := by simp only [List.length_append, bitsOf_len]; omega
  rw [bit_pack _ _ hlen]
  have e : (pre ++ bitsOf v n ++ post).getD (pre.length + i) false = vb v n i := by
    rw [List.append_assoc, List.getD_eq_getElem?_getD, List.getElem?_append_right (by omega), Nat.add_sub_cancel_left, List.getElem?_append_left (by rw [bitsOf_len]; exact hi)]
    simp [bitsOf, hi]
  unfold bv
  rw [e]
  unfold vb
  by_cases q : v / 2 ^ (n - 1 - i) % 2 = 1
  · simp [q]
  · simp [q]; omega
theorem nums_back (ps : List (Int × Int)) (h : fitL ps) : ∀ pre post, numsB (packB (pre ++ bitsL ps ++ post)) pre.length (ps.map (·.2)) = ps.map (·.1) := by
  induction ps with
  | nil => intro pre post; rfl
  | cons p t ih =>
    intro pre post
    obtain ⟨v, n⟩ := p
    obtain ⟨hn, h0, h1⟩ := h (v, n) (by simp)
    simp only [List.map_cons, numsB, bitsL]
    have e1 := acc_mid pre (bitsL t ++ post) v n.toNat h0 h1
    have e2 := ih (fun q hq => h q (by simp [hq])) (pre ++ bitsOf v n.toNat) post
    rw [show pre ++ bitsOf v n.toNat ++ (bitsL t ++ post) = pre ++ (bitsOf v n.toNat ++ bitsL t) ++ post by simp [List.append_assoc]] at e1
    rw [show pre ++ bitsOf v n.toNat ++ bitsL t ++ post = pre ++ (bitsOf v n.toNat ++ bitsL t) ++ post by simp [List.append_assoc]] at e2
    rw [e1]
    congr 1
    rw [← e2]
    simp [bitsOf_len]
theorem bitsL_len (ps : List (Int × Int)) : (bitsL ps).length = sumL (ps.map (·.2)) := by
  induction ps with
  | nil => rfl
  | cons p t ih => obtain ⟨v, n⟩ := p; simp [bitsL, sumL, ih, bitsOf_len]
/-- The value that the law writes into field k. -/
def vF (vals : List Int) (L : List Fld) (k : Nat) : Int := vals.getD k 0 / 2 ^ (32 - (L.getD k fz).2).toNat
def vFs (vals : List Int) (L : List Fld) (k : Nat) : List Int := (List.range k).map (vF vals L)
theorem vFs_len (vals : List Int) (L : List Fld) (k : Nat) : (vFs vals L k).length = k := by simp [vFs]
theorem vFs_succ (vals : List Int) (L : List Fld) (k : Nat) : vFs vals L (k + 1) = vFs vals L k ++ [vF vals L k] := by simp [vFs, List.range_succ]
theorem vF_range (x n : Int) (h : 0 ≤ x ∧ x < 4294967296) (hn : 1 ≤ n ∧ n ≤ 32) : 0 ≤ x / 2 ^ (32 - n).toNat ∧ x / 2 ^ (32 - n).toNat < 2 ^ n.toNat := by
  obtain ⟨m, rfl⟩ : ∃ m : Nat, n = (m : Int) := ⟨n.toNat, by omega⟩
  have hp := pow_pos' (32 - (m : Int)).toNat
  refine ⟨Int.ediv_nonneg h.1 (by omega), ?_⟩
  refine Int.ediv_lt_of_lt_mul hp ?_
  rw [← Int.pow_add, show (m : Int).toNat + (32 - (m : Int)).toNat = 32 by omega]
  exact h.2
theorem zip_fit (vals : List Int) (L : List Fld) (hv : ∀ x ∈ vals, 0 ≤ x ∧ x < 4294967296) (hl : L.length ≤ vals.length) (hg : goodL (wsL L)) : fitL ((vFs vals L L.length).zip (wsL L)) := by
  intro p hp
  obtain ⟨j, hj, rfl⟩ := List.mem_iff_getElem.1 hp
  rw [List.length_zip, vFs_len, wsL_len, Nat.min_self] at hj
  rw [List.getElem_zip]
  have hw : j < (wsL L).length := by rw [wsL_len]; exact hj
  have e1 : (wsL L)[j] = (L.getD j fz).2 := by rw [← wsL_get L j hj]; simp [hw]
  have e2 : (vFs vals L L.length)[j]'(by rw [vFs_len]; exact hj) = vF vals L j := by simp [vFs]
  have g := hg (wsL L)[j] (List.getElem_mem hw)
  rw [e1] at g
  show (1 ≤ (wsL L)[j] ∧ (wsL L)[j] ≤ 32) ∧ 0 ≤ (vFs vals L L.length)[j]'_ ∧ (vFs vals L L.length)[j]'_ < 2 ^ ((wsL L)[j]).toNat
  rw [e1, e2]
  exact ⟨g, vF_range _ _ (hv _ (by simp [show j < vals.length by omega])) g⟩
theorem zip_snd (vals : List Int) (L : List Fld) : (((vFs vals L L.length).zip (wsL L)).map (·.2)) = wsL L := by
  rw [List.map_snd_zip]; rw [vFs_len, wsL_len]; exact Nat.le_refl _
theorem zip_fst (vals : List Int) (L : List Fld) : (((vFs vals L L.length).zip (wsL L)).map (·.1)) = vFs vals L L.length := by
  rw [List.map_fst_zip]; rw [vFs_len, wsL_len]; exact Nat.le_refl _
/-- What Write answers for the law's values, and what Read then answers. -/
theorem round_ok {hs : ByteArray} {L : List Fld} (vals : List Int) (h : chkH hs L = 0) (hv : ∀ x ∈ vals, 0 ≤ x ∧ x < 4294967296) (hl : L.length ≤ vals.length) :
    ∃ (Bv : List Bool) (q : Nat), wrH hs L (vFs vals L L.length) [] = (0, Bv) ∧ Bv.length = 8 * q ∧ bytesR Bv = (0, packB Bv) ∧ (packB Bv).length = q ∧ bitsH hs L = 8 * q ∧ q ≤ 48 ∧ rdH hs L (packB Bv) 0 = (0, vFs vals L L.length, 8 * q) := by
  obtain ⟨h1, h2, h3, h4, h5⟩ := chk_ok hs L h
  have hi := isum_good _ h5
  rw [wsL_len] at hi
  have hf := zip_fit vals L hv hl h5
  have hr := pkRun_fit _ hf []
  have hb := nums_back _ hf [] []
  have hbl := bitsL_len ((vFs vals L L.length).zip (wsL L))
  rw [zip_snd] at hb hbl
  rw [zip_fst] at hb
  simp only [List.nil_append, List.append_nil, List.length_nil] at hr hb
  obtain ⟨Bv, hB⟩ : ∃ B, B = bitsL ((vFs vals L L.length).zip (wsL L)) := ⟨_, rfl⟩
  rw [← hB] at hr hb hbl
  have hp := packB_len Bv
  refine ⟨Bv, sumL (wsL L) / 8, ?_, by omega, ?_, by omega, ?_, by omega, ?_⟩
  · unfold wrH
    rw [if_neg (show ¬ ¬ chkH hs L = 0 from fun x => x h), if_neg (by rw [vFs_len]; exact fun x => x rfl), hr, if_pos rfl, List.nil_append]
  · unfold bytesR
    rw [if_pos (by omega)]
  · rw [(bits_ok h).1]; omega
  · unfold rdH
    rw [if_neg (show ¬ ¬ chkH hs L = 0 from fun x => x h), if_neg (by omega), hb]
    simp only [Nat.zero_add, Prod.mk.injEq, true_and]
    omega
theorem bitsTo_cut (bs : List Int) (q : Nat) (h : q ≤ bs.length) : bitsTo (bs.take q) (8 * q) = bitsTo bs (8 * q) := by
  unfold bitsTo
  apply List.map_congr_left
  intro j hj
  have hj := List.mem_range.1 hj
  unfold bitAt
  congr 3
  rw [List.getD_eq_getElem?_getD, List.getD_eq_getElem?_getD, List.getElem?_take, if_pos (by omega)]
/-- What Read answers for bytes that are long enough, and what Write makes of it. -/
theorem again_ok {hs : ByteArray} {L : List Fld} (bs : List Int) (h : chkH hs L = 0) (hb : ∀ x ∈ bs, 0 ≤ x ∧ x ≤ 255) (hl : ¬ (bs.length : Int) * 8 < bitsH hs L) :
    ∃ (ys : List Int) (Bz : List Bool) (q : Nat), rdH hs L bs 0 = (0, ys, 8 * q) ∧ ys.length = L.length ∧ (∀ x ∈ ys, 0 ≤ x ∧ x < 4294967296) ∧ wrH hs L ys [] = (0, Bz) ∧ Bz.length ≤ 400 ∧ bytesR Bz = (0, bs.take q) ∧ q ≤ bs.length ∧ (bs.take q).length = q := by
  obtain ⟨h1, h2, h3, h4, h5⟩ := chk_ok hs L h
  have hi := isum_good _ h5
  rw [wsL_len] at hi
  have hbt := (bits_ok h).1
  have hr := pkRun_good bs (wsL L) 0 h5
  rw [Nat.zero_add, show bitsTo bs 0 = [] from rfl] at hr
  have hq : sumL (wsL L) = 8 * (sumL (wsL L) / 8) := by omega
  have hql : sumL (wsL L) / 8 ≤ bs.length := by omega
  have ht : (bs.take (sumL (wsL L) / 8)).length = sumL (wsL L) / 8 := by rw [List.length_take]; omega
  refine ⟨numsB bs 0 (wsL L), bitsTo bs (sumL (wsL L)), sumL (wsL L) / 8, ?_, by rw [numsB_len, wsL_len], numsB_range bs (wsL L) 0 h5, ?_, by rw [bitsTo_len]; omega, ?_, hql, ht⟩
  · unfold rdH
    rw [if_neg (show ¬ ¬ chkH hs L = 0 from fun x => x h), if_neg (by omega)]
    simp only [Nat.zero_add, Prod.mk.injEq, true_and]
    omega
  · unfold wrH
    rw [if_neg (show ¬ ¬ chkH hs L = 0 from fun x => x h), if_neg (by rw [numsB_len, wsL_len]; exact fun x => x rfl), hr, if_pos rfl, List.nil_append]
  · unfold bytesR
    rw [bitsTo_len, if_pos (by omega)]
    congr 1
    have k := pack_bits (bs.take (sumL (wsL L) / 8)) (fun x hx => hb x (List.mem_of_mem_take hx))
    rw [ht, bitsTo_cut _ _ hql, ← hq] at k
    exact k
theorem short_ok {hs : ByteArray} {L : List Fld} (bs : List Int) (h : chkH hs L = 0) (hl : (bs.length : Int) * 8 < bitsH hs L) : rdH hs L bs 0 = (3, [], 0) := by
  unfold rdH
  rw [(bits_ok h).1] at hl
  rw [if_neg (show ¬ ¬ chkH hs L = 0 from fun x => x h), if_pos (by omega)]
end Go.Proofs.Ytglgjkggjpfahaa
end
