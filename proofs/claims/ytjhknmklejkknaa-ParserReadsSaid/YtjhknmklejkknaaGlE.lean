/- Several texts in one: HdJ, HdK, HdS, HdL, HdM, HdR. -/
import Derived.Test.YtjhknmklejkknaaGlD
import Derived.Maps.AppendAt
section
namespace Go.Proofs.Ytjhknmklejkknaa
open Go.RowKit
set_option linter.unusedVariables false

theorem gb_put2 {w w1 : World} {row : Option Nat} {g i : Nat} {u : Value} (h : w.grownBy w1 row) (hg : w.heap.size ≤ g) : w.grownBy (w1.setCell ⟨g, i, none⟩ u) row := by
  have k := gb_set w1 g i u
  exact ⟨k.os.trans h.os, k.tape.trans h.tape, k.output.trans h.output, Nat.le_trans h.size k.size, fun q hq hr => (k.block q (Nat.lt_of_lt_of_le hq h.size) (by intro e; injection e with e; omega)).trans (h.block q hq hr)⟩
/-- A row of numbers of 32 bits of the call's own. -/
def UL (w : World) (base : Nat) (V : Value) (L : List Int) : Prop := w.ownsRow base 58 1 V L.length (L.map (Value.int .u32))
theorem UL.keep0 {w w2 : World} {base : Nat} {V : Value} {L : List Int} (h : UL w base V L) (k : w.grownBy w2 none) : UL w2 base V L := own_keep0 h k
theorem UL.shape {w : World} {base : Nat} {V : Value} {L : List Int} (h : UL w base V L) : ∃ a c, V = .slice a L.length c := own_shape h
theorem UL.slr {w : World} {base c n : Nat} {a : Option Addr} {L : List Int} (h : UL w base (.slice a n c) L) (hn : n = L.length) : SlR w a n c (L.map (Value.int .u32)) := by subst hn; exact own_slr h
theorem UL.put {w : World} {base g n c : Nat} {L : List Int} (h : UL w base (.slice (some ⟨g, 0, none⟩) n c) L) (hn : n = L.length) (p : Nat) (v : Int) :
    UL (w.setCell ⟨g, p, none⟩ (.int .u32 v)) base (.slice (some ⟨g, 0, none⟩) n c) (L.set p v) := by
  subst hn
  have k := (World.ownsRow.stored h p (.int .u32 v)).1
  unfold UL
  rw [List.map_set, List.length_set]
  exact k
theorem UL.free {w : World} {base g n c : Nat} {L : List Int} (h : UL w base (.slice (some ⟨g, 0, none⟩) n c) L) (hn : n = L.length) (p : Nat) : w.frozen? ⟨g, p, none⟩ = false := by
  subst hn
  obtain ⟨cs, hb⟩ := own_blk h
  exact hb.free p
theorem UL.at_ {w : World} {base g n c : Nat} {L : List Int} (h : UL w base (.slice (some ⟨g, 0, none⟩) n c) L) (hn : n = L.length) (p : Nat) (hp : p < L.length) : w.cell? ⟨g, p, none⟩ = some (.int .u32 (L.getD p 0)) := by
  subst hn
  exact own_cell h p hp
/-- What Read comes to: the error, the numbers, the position behind them. -/
def rdH (hs : ByteArray) (L : List Fld) (bs : List Int) (pos : Nat) : Int × List Int × Nat :=
  if ¬ chkH hs L = 0 then (chkH hs L, [], pos) else if (bs.length : Int) * 8 - pos < isum (wsL L) then (3, [], pos) else (0, numsB bs pos (wsL L), pos + sumL (wsL L))
theorem sumL_step (l : List Int) (k : Nat) (h : k < l.length) : sumL (l.take (k + 1)) = sumL (l.take k) + (l.getD k 0).toNat := by
  induction l generalizing k with
  | nil => simp at h
  | cons n t ih =>
    cases k with
    | zero => simp [sumL]
    | succ k =>
      have := ih k (by simpa using h)
      simp only [List.take_succ_cons, sumL, List.getD_cons_succ, this]
      omega
theorem sumL_le (l : List Int) (k : Nat) : sumL (l.take k) ≤ sumL l := by
  induction l generalizing k with
  | nil => simp
  | cons n t ih =>
    cases k with
    | zero => simp [sumL]
    | succ k =>
      have := ih k
      simp only [List.take_succ_cons, sumL]
      omega
theorem nums_at (bs : List Int) (l : List Int) : ∀ (pos k : Nat), k < l.length → (numsB bs pos l).getD k 0 = accB bs (pos + sumL (l.take k)) (l.getD k 0).toNat := by
  induction l with
  | nil => intro pos k h; simp at h
  | cons n t ih =>
    intro pos k h
    cases k with
    | zero => simp [numsB, sumL]
    | succ k =>
      have := ih (pos + n.toNat) k (by simpa using h)
      simp only [numsB, List.getD_cons_succ, this, List.take_succ_cons, sumL]
      rw [Nat.add_assoc]
/-- The call returns numbers of its own and an error code; the reader stands behind them. -/
def RetRh (er : Int) (us : List Int) (w : World) (base r s : Nat) (V : Value) (bs : List Int) (pos2 : Nat) (e : Ending) (w' : World) : Prop :=
  ∃ v', e = .returned (.tuple #[v', .int .i64 er]) ∧ w.grownBy w' (some s) ∧ Rdr w' base r s V bs pos2 ∧ UL w' w.heap.size v' us
set_option maxRecDepth 100000 in
set_option maxHeartbeats 8000000 in
theorem read_any (W w : World) (hs : ByteArray) (a : Option Addr) (n c : Nat) (L : List Fld) (h : HdOk W hs a n c L) (hW : Below W.heap.size W w) (base r s : Nat) (V : Value) (bs : List Int) (pos : Nat) (hR : Rdr w base r s V bs pos) (hs0 : W.heap.size ≤ s)
    (hb : ∀ b ∈ bs, 0 ≤ b ∧ b ≤ 255) (hbl : bs.length ≤ 60000) (hp : pos ≤ 8 * bs.length) (er : Int) (us : List Int) (pos2 : Nat) (hq : rdH hs L bs pos = (er, us, pos2)) :
    Calls Try.prog 40 #[.agg #[.string hs, .slice a n c], .pointer (some ⟨r, 0, none⟩)] w (RetRh er us w base r s V bs pos2) := by
  have HH := Lib.hid h
  have HB := Lib.hid hb
  have HW := Lib.hid (fun (w' : World) (g : w.grownBy w' (some s)) => gb_of_below (gb_below hW g hW.size (by intro q e; injection e with e; omega)))
  have HQ := Lib.hid hq
  have hsw := hR.sb.lt
  have A0 := Lib.hid (gb_alloc w (.cells #[.string hs, .slice a n c] 66) none)
  have HC := Lib.hid (fun w' (g : w.grownBy w' none) => check_any w' hs a n c L (h.sf.keep0 (HW.out w' (gb_any g))) h.few h.nm h.hn)
  have HC0 := Lib.hid (HC.out _ A0.out)
  have R1 := Lib.hid (hR.keep0 A0.out)
  have BX := Lib.hid (IsB.new w 66 #[.string hs, .slice a n c])
  have GL := Lib.hid (chk_ok hs L)
  have BT := Lib.hid (fun w' (g : w.grownBy w' (some s)) => bits_any w' hs a n c L (h.keep0 (HW.out w' g)))
  have HY := Lib.hid (bits_ok (hs := hs) (L := L))
  clear h hW hR hq hb
  unfold rdH at HQ
  obtain ⟨q, hqq⟩ : ∃ q, q = chkH hs L := ⟨_, rfl⟩
  rw [← hqq] at HC HC0 HQ GL HY
  obtain ⟨bt, hbt⟩ : ∃ q, q = bitsH hs L := ⟨_, rfl⟩
  rw [← hbt] at BT HY
  clear hqq HC hbt
  by_cases q0 : q = 0
  · have GLt := Lib.hid (GL.out q0)
    have HYt := Lib.hid (HY.out q0)
    rw [if_neg (by simp [q0]), ← HYt.out.1] at HQ
    clear GL HY
    subst q0
    go_enter Try.func40, Try.ntmps40
    go_wp2_with fail
    refine HC0.out.mono ?_
    rintro e w2 ⟨rfl, g2⟩
    have G2 := Lib.hid g2
    have R2 := Lib.hid (R1.out.keep0 g2)
    have BX2 := Lib.hid (BX.out.keep0 g2)
    have hpos2 := g2.size
    have HR2 := Lib.hid (reads_any w2 base r s V bs pos 0 R2.out HB.out hbl hp 10 0 pos (by unfold rdStep; rw [if_neg (by decide)]))
    clear g2 HC0
    go_wp2_with fail
    refine HR2.out.mono ?_
    rintro e w3 ⟨rfl, g3, r3⟩
    have BX3 := Lib.hid (BX2.out.keepS g3 R2.out.sb (by decide))
    have G3 := Lib.hid (gb_trans (gb_any (gb_trans A0.out G2.out)) g3)
    have R3 := Lib.hid r3
    clear g3 r3 HR2
    have RM := Lib.hid (fun w' (g : w3.grownBy w' none) => Remaining_any w' base r s V bs pos (R3.out.keep0 g) hbl hp)
    have BT3 := Lib.hid (fun w' (g : w3.grownBy w' none) => BT.out w' (gb_trans G3.out (gb_any g)))
    have KS := Lib.hid (fun (w' : World) (q : w3.grownBy w' none) => (⟨(BX3.out.keep0 q).cell 0, (BX3.out.keep0 q).cell 1, q⟩ : (fun w' : World => w'.cell? ⟨w.heap.size, 0, none⟩ = some (.string hs) ∧ w'.cell? ⟨w.heap.size, 1, none⟩ = some (.slice a n c) ∧ w3.grownBy w' none) w'))
    go_wp2_with fail
    go_region_held3 (fun w' : World => w'.cell? ⟨w.heap.size, 0, none⟩ = some (.string hs) ∧ w'.cell? ⟨w.heap.size, 1, none⟩ = some (.slice a n c) ∧ w3.grownBy w' none)
      (first
        | assumption
        | exact KS.out _ (by repeat' first
                                  | assumption
                                  | exact (And.right (And.right (by assumption)))
                                  | exact World.grownBy.refl _ _
                                  | exact gb_drew _ _
                                  | refine gb_trans ?_ (gb_drew _ _)
                                  | refine gb_trans ?_ (by assumption)))
      (first
        | (go_at_call 66; refine (RM.out _ (by repeat' first
                                  | assumption
                                  | exact (And.right (And.right (by assumption)))
                                  | exact World.grownBy.refl _ _
                                  | exact gb_drew _ _
                                  | refine gb_trans ?_ (gb_drew _ _)
                                  | refine gb_trans ?_ (by assumption))).mono ?_; rintro e w' ⟨rfl, g, _⟩)
        | (go_at_call 67; refine (BT3.out _ (by repeat' first
                                  | assumption
                                  | exact (And.right (And.right (by assumption)))
                                  | exact World.grownBy.refl _ _
                                  | exact gb_drew _ _
                                  | refine gb_trans ?_ (gb_drew _ _)
                                  | refine gb_trans ?_ (by assumption))).mono ?_; rintro e w' ⟨rfl, g⟩))
    have gS : w3.grownBy w' none := And.right (And.right (by assumption))
    rename_i hHeld
    clear hHeld
    generalize w' = w4 at *
    have G4 := Lib.hid (gb_trans G3.out (gb_any gS))
    have R4 := Lib.hid (R3.out.keep0 gS)
    have b0 := (BX3.out.keep0 gS).cell 0
    have b1 := (BX3.out.keep0 gS).cell 1
    have BX4 := Lib.hid (BX3.out.keep0 gS)
    simp at b0 b1
    clear gS KS RM BT3 BT R3 R2 G2 G3 BX3 BX2 BX R1
    by_cases hsh : (bs.length : Int) * 8 - pos < bt
    · rw [if_pos hsh] at HQ
      have E := HQ.out
      simp only [Prod.mk.injEq] at E
      obtain ⟨rfl, rfl, rfl⟩ := E
      go_wp2
      go_ret2
      exact ⟨_, rfl, G4.out, R4.out, World.ownsRow_nil _ _ _ _⟩
    · rw [if_neg hsh] at HQ
      have E := HQ.out
      simp only [Prod.mk.injEq] at E
      obtain ⟨rfl, hus, rfl⟩ := E
      have hfit : pos + sumL (wsL L) ≤ 8 * bs.length := by have := HYt.out.1; have := HYt.out.2.2.2; omega
      have hn12 : n ≤ 12 := by have := GLt.out.2.1; rw [HH.out.sf.len] at this; exact this
      have hfew := HH.out.few
      have hlen : (numsB bs pos (wsL L)).length = n := by rw [numsB_len, wsL_len, HH.out.sf.len]
      have HLEN := Lib.hid hlen
      have hwl : (wsL L).length = n := by rw [wsL_len, HH.out.sf.len]
      have HWL := Lib.hid hwl
      have NA := Lib.hid (nums_at bs (wsL L) pos)
      rw [hus] at HLEN NA
      have HFIT := Lib.hid hfit
      clear hus hlen hwl hfit HQ
      obtain ⟨i0, hi, hz0, hz1, hz2⟩ := info_parts infoU32h
      have HI := Lib.hid hi
      clear hi
      go_wp2_with (at_make; refine wpList_make_full _ rfl _ _ 40 rfl w.heap.size 58 i0 (.int .u32 0) 1 Try.underlying40 HI.out hz0 hz1 .i64 .i64 _ _ n rfl rfl ?c1 ?c2 ?c3 ?c4 ?c5 ?_)
      case c1 => first | rfl | omega
      case c2 => first | rfl | omega
      case c3 => first | (rw [hz2]; omega) | omega
      case c4 => unfold maxLen; omega
      case c5 => have := G4.out.size; omega
      intro w5 hown hg
      have N1 := Lib.hid (show UL w5 w.heap.size (.slice (some ⟨w4.heap.size, 0, none⟩) n n) (upto us 0) by
        unfold UL
        rw [upto_zero, HLEN.out, List.map_replicate, List.length_replicate, ← made_zero]
        first | exact hown | simpa using hown)
      have hg4 : w.heap.size ≤ w4.heap.size := G4.out.size
      have G5 := Lib.hid (gb_trans G4.out (gb_any hg))
      have R5 := Lib.hid (R4.out.keep0 hg)
      have BX5 := Lib.hid (BX4.out.keep0 hg)
      have b2 := BX5.out.cell 0
      have b3 := BX5.out.cell 1
      simp at b2 b3
      generalize w4.heap.size = gr at *
      clear hown hg b0 b1 R4 BX4 G4
      go_wp2_with fail
      go_loopw [36] (fun i wr => ∃ k : Nat, k ≤ n ∧ i = .int .i64 k ∧ UL wr w.heap.size (.slice (some ⟨gr, 0, none⟩) n n) (upto us k) ∧ Rdr wr base r s V bs (pos + sumL ((wsL L).take k)) ∧ w.grownBy wr (some s)) (fun i _ => n - (intOf i).toNat)
      case atStart => exact ⟨0, Nat.zero_le _, rfl, N1.out, by simpa [sumL] using R5.out, G5.out⟩
      case round =>
        obtain ⟨k, hk, rfl, q1, q2, q3⟩ := hrel
        clear N1 R5 G5 BX5 b2 b3
        have N1 := Lib.hid q1
        have R5 := Lib.hid q2
        have G5 := Lib.hid q3
        clear q1 q2 q3
        by_cases hlt : k < n
        · have sf := HH.out.sf.keep0 (HW.out wr G5.out)
          obtain ⟨ad, rfl⟩ := sf_some sf (by omega)
          obtain ⟨c0, c1⟩ := sf.cells ad rfl k hlt
          have i1 : (k : Int) < n := by omega
          have i0 : (0 : Int) ≤ (k : Int) := by omega
          have hl : k < L.length := by rw [HH.out.sf.len]; exact hlt
          have hkw : k < (wsL L).length := by rw [HWL.out]; exact hlt
          have hgd := GLt.out.2.2.2.2 ((wsL L).getD k 0) (by simp [hkw])
          have hna := NA.out k hkw
          have hst := sumL_step (wsL L) k hkw
          have hle := sumL_le (wsL L) (k + 1)
          rw [wsL_get L k hl] at hgd hna hst
          have HS := Lib.hid (upto_set us k (by rw [HLEN.out]; exact hlt))
          have hu := upto_len us k (by rw [HLEN.out]; omega)
          rw [HLEN.out] at hu
          obtain ⟨p, hp⟩ : ∃ p, p = L.getD k fz := ⟨_, rfl⟩
          rw [← hp] at c0 c1 hgd hna hst
          obtain ⟨v, m⟩ := p
          have RD := Lib.hid (reads_any (wr.alloc (.cells #[.string v, .int .i64 m] 94)) base r s V bs (pos + sumL ((wsL L).take k)) m (R5.out.keep0 (gb_alloc _ _ _)) HB.out hbl (by have := HFIT.out; omega) 0 (us.getD k 0) (pos + sumL ((wsL L).take (k + 1)))
            (by rw [rd_good _ _ _ hgd (by have := HFIT.out; simp only at hst; omega), hna, hst, Nat.add_assoc]))
          have FB := Lib.hid (IsB.new wr 94 #[.string v, .int .i64 m])
          obtain ⟨x, hx⟩ : ∃ x, x = us.getD k 0 := ⟨_, rfl⟩
          rw [← hx] at RD HS
          obtain ⟨y, hy⟩ : ∃ y, y = (upto us k).getD k 0 := ⟨_, rfl⟩
          have HY2 := Lib.hid hy
          clear hp hl hkw hgd hna hst hle sf hx hy
          go_wp2_with fail
          refine RD.out.mono ?_
          rintro e w6 ⟨rfl, g6, r6⟩
          have N2 := Lib.hid (own_keepS (N1.out.keep0 (gb_alloc wr (.cells #[.string v, .int .i64 m] 94) none)) g6 (R5.out.keep0 (gb_alloc wr (.cells #[.string v, .int .i64 m] 94) none)).sb (by decide))
          have f1 := UL.free N2.out hu.symm k
          have d1 := UL.at_ N2.out hu.symm k (by rw [hu]; exact hlt)
          rw [← HY2.out] at d1
          have N3 := Lib.hid (show UL (w6.setCell ⟨gr, k, none⟩ (.int .u32 x)) w.heap.size (.slice (some ⟨gr, 0, none⟩) n n) (upto us (k + 1)) by
            have q := UL.put N2.out hu.symm k x
            rw [HS.out] at q
            exact q)
          have G6 := Lib.hid (gb_put2 (g := gr) (i := k) (u := .int .u32 x) (gb_trans (gb_trans G5.out (gb_any (gb_alloc _ _ none))) g6) hg4)
          have R6 := Lib.hid (Rdr.other r6 N2.out (gb_set w6 gr k (.int .u32 x)))
          clear g6 r6 N2 c0 c1 RD
          go_wp2
          go_roundw
          case rel => exact ⟨k + 1, by omega, by go_num, N3.out, R6.out, G6.out⟩
          case measure => simp [intOf]; omega
        · have hke : k = n := by omega
          have E := Lib.hid (show upto us k = us by rw [hke, ← HLEN.out, upto_full])
          rw [E.out] at N1
          rw [hke, List.take_of_length_le (by rw [HWL.out]; exact Nat.le_refl _)] at R5
          have NL2 := Lib.hid N1.out
          subst hke
          go_wp2
          go_ret2
          exact ⟨_, rfl, G5.out, R5.out, N1.out⟩
  · have d1 : (q == 0) = false := by simp [q0]
    have d2 : (q != 0) = true := by simp [q0]
    rw [if_pos q0] at HQ
    have E := HQ.out
    simp only [Prod.mk.injEq] at E
    obtain ⟨rfl, rfl, rfl⟩ := E
    clear q0 GL HY BT
    go_enter Try.func40, Try.ntmps40
    go_wp2_with fail
    refine HC0.out.mono ?_
    rintro e w2 ⟨rfl, g2⟩
    have G2 := Lib.hid (gb_trans A0.out g2)
    have R2 := Lib.hid (R1.out.keep0 g2)
    clear g2
    go_wp2
    go_ret2
    exact ⟨_, rfl, gb_any G2.out, R2.out, World.ownsRow_nil _ _ _ _⟩
end Go.Proofs.Ytjhknmklejkknaa
end
section
namespace Go.Proofs.Ytjhknmklejkknaa
open Go.RowKit
set_option linter.unusedVariables false

/-- What the reference's Read holds: its header, its reader, its result, the bytes, the numbers so far. -/
def HIn (w : World) (base : Nat) (hs : ByteArray) (a : Option Addr) (n c : Nat) (ax : Option Addr) (cx : Nat) (bs : List Int) (pos : Nat) (U : Value) (us : List Int) (w' : World) : Prop :=
  IsB w' w.heap.size 66 #[.string hs, .slice a n c] ∧ IsB w' (w.heap.size + 1) 122 #[.slice ax bs.length cx, .int .i64 pos] ∧ IsB w' (w.heap.size + 2) 122 #[.slice none 0 0, .int .i64 0] ∧
  w'.ownsRow base 5 1 (.slice ax bs.length cx) bs.length (bs.map (Value.int .u8)) ∧ UL w' w.heap.size U us ∧ w.grownBy w' none
theorem HIn.step {w w1 w2 : World} {base : Nat} {hs : ByteArray} {a : Option Addr} {n c : Nat} {ax : Option Addr} {cx : Nat} {bs : List Int} {pos : Nat} {U : Value} {us : List Int} (h : HIn w base hs a n c ax cx bs pos U us w1) (k : w1.grownBy w2 none) : HIn w base hs a n c ax cx bs pos U us w2 :=
  ⟨h.1.keep0 k, h.2.1.keep0 k, h.2.2.1.keep0 k, own_keep0 h.2.2.2.1 k, h.2.2.2.2.1.keep0 k, gb_trans h.2.2.2.2.2 k⟩
end Go.Proofs.Ytjhknmklejkknaa
end
section
namespace Go.Proofs.Ytjhknmklejkknaa
open Go.RowKit
set_option linter.unusedVariables false

/-- Changed are at most the state's block and the bytes' block; the bytes lie where they lay, or in a new block. -/
structure GS (s : Nat) (V : Value) (w : World) (V' : Value) (w' : World) : Prop where
  size : w.heap.size ≤ w'.heap.size
  block : ∀ k, k < w.heap.size → k ≠ s → V.ownBlock ≠ some k → w'.heap[k]? = w.heap[k]?
  own : V'.ownBlock = V.ownBlock ∨ ∀ g, V'.ownBlock = some g → w.heap.size ≤ g
theorem GS.refl (s : Nat) (V : Value) (w : World) : GS s V w V w := ⟨Nat.le_refl _, fun _ _ _ _ => rfl, .inl rfl⟩
theorem GS.trans {s : Nat} {A B C : Value} {a b c : World} (h : GS s A a B b) (k : GS s B b C c) : GS s A a C c := by
  refine ⟨Nat.le_trans h.size k.size, fun i hi h1 h2 => ?_, ?_⟩
  · refine (k.block i (Nat.lt_of_lt_of_le hi h.size) h1 ?_).trans (h.block i hi h1 h2)
    rcases h.own with e | e
    · rw [e]; exact h2
    · intro q; have := e i q; omega
  · rcases k.own with e | e
    · rw [e]; exact h.own
    · exact .inr fun g q => Nat.le_trans h.size (e g q)
def BitS (w : World) (base s : Nat) (V : Value) (L : List Bool) (e : Ending) (w' : World) : Prop := e = .returned (.tuple #[]) ∧ GTh base w w' ∧ ∃ V', WSt w' base s V' L ∧ GS s V w V' w'
theorem BitS.from {w w2 : World} {base s : Nat} {V V2 : Value} {L : List Bool} {e : Ending} {w' : World} (h : BitS w2 base s V2 L e w') (k : GTh base w w2) (q : GS s V w V2 w2) : BitS w base s V L e w' := by
  obtain ⟨h1, h2, V', h3, h4⟩ := h
  exact ⟨h1, k.trans h2, V', h3, q.trans h4⟩
end Go.Proofs.Ytjhknmklejkknaa
end
section
namespace Go.Proofs.Ytjhknmklejkknaa
open Go.RowKit
set_option linter.unusedVariables false

/-- What Write comes to: the error and the bits. -/
def wrH (hs : ByteArray) (L : List Fld) (vals : List Int) (B : List Bool) : Int × List Bool :=
  if ¬ chkH hs L = 0 then (chkH hs L, B) else if ¬ vals.length = L.length then (2, B) else if (pkRun [] (vals.zip (wsL L))).1 = 0 then (0, B ++ (pkRun [] (vals.zip (wsL L))).2) else ((pkRun [] (vals.zip (wsL L))).1, B)
theorem pack_len {hs : ByteArray} {L : List Fld} {vals : List Int} (h : chkH hs L = 0) (e : vals.length = L.length) (e2 : (pkRun [] (vals.zip (wsL L))).1 = 0) :
    bytesBits (packB (pkRun [] (vals.zip (wsL L))).2) = (pkRun [] (vals.zip (wsL L))).2 ∧ (packB (pkRun [] (vals.zip (wsL L))).2).length ≤ 48 ∧ (pkRun [] (vals.zip (wsL L))).2.length ≤ 384 := by
  obtain ⟨h1, h2, h3, h4, h5⟩ := chk_ok hs L h
  have h6 := isum_good _ h5
  rw [wsL_len] at h6
  have hl := pkRun_good_len (wsL L) h5 vals [] (by rw [wsL_len]; exact e) e2
  simp only [List.length_nil, Nat.zero_add] at hl
  have hp := packB_len (pkRun [] (vals.zip (wsL L))).2
  refine ⟨list_bits _ (sumL (wsL L) / 8) (by omega), by omega, by omega⟩
end Go.Proofs.Ytjhknmklejkknaa
end
section
namespace Go.Proofs.Ytjhknmklejkknaa
open Go.RowKit
set_option linter.unusedVariables false

/-- What the reference's Write holds: its header, its writer, its result, the writer so far, the bits of both. -/
def WIn (w : World) (base : Nat) (hs : ByteArray) (a : Option Addr) (n c : Nat) (aw : Option Addr) (cw : Nat) (B : List Bool) (xb : Nat) (am : Option Addr) (cm : Nat) (M : List Bool) (w' : World) : Prop :=
  IsB w' w.heap.size 66 #[.string hs, .slice a n c] ∧ IsB w' (w.heap.size + 1) 61 #[.slice aw B.length cw] ∧ IsB w' (w.heap.size + 2) 61 #[.slice none 0 0] ∧
  IsB w' xb 61 #[.slice am M.length cm] ∧ BRow w' base (.slice aw B.length cw) B ∧ BRow w' base (.slice am M.length cm) M ∧ w.grownBy w' none
theorem WIn.step {w w1 w2 : World} {base : Nat} {hs : ByteArray} {a : Option Addr} {n c : Nat} {aw : Option Addr} {cw : Nat} {B : List Bool} {xb : Nat} {am : Option Addr} {cm : Nat} {M : List Bool} (h : WIn w base hs a n c aw cw B xb am cm M w1) (k : w1.grownBy w2 none) : WIn w base hs a n c aw cw B xb am cm M w2 :=
  ⟨h.1.keep0 k, h.2.1.keep0 k, h.2.2.1.keep0 k, h.2.2.2.1.keep0 k, own_keep0 h.2.2.2.2.1 k, own_keep0 h.2.2.2.2.2.1 k, gb_trans h.2.2.2.2.2.2 k⟩
theorem win_new (w : World) (base : Nat) (hs : ByteArray) (a : Option Addr) (n c : Nat) (aw : Option Addr) (cw : Nat) (B : List Bool) (h : BRow w base (.slice aw B.length cw) B) :
    WIn w base hs a n c aw cw B (w.heap.size + 1) aw cw B (((w.alloc (.cells #[.string hs, .slice a n c] 66)).alloc (.cells #[.slice aw B.length cw] 61)).alloc (.cells #[.slice none 0 0] 61)) := by
  have b1 := IsB.new w 66 #[.string hs, .slice a n c]
  have b2 := IsB.new (w.alloc (.cells #[.string hs, .slice a n c] 66)) 61 #[.slice aw B.length cw]
  have b3 := IsB.new ((w.alloc (.cells #[.string hs, .slice a n c] 66)).alloc (.cells #[.slice aw B.length cw] 61)) 61 #[.slice none 0 0]
  rw [show (w.alloc (.cells #[.string hs, .slice a n c] 66)).heap.size = w.heap.size + 1 by simp] at b2
  rw [show ((w.alloc (.cells #[.string hs, .slice a n c] 66)).alloc (.cells #[.slice aw B.length cw] 61)).heap.size = w.heap.size + 2 by simp] at b3
  have g : w.grownBy (((w.alloc (.cells #[.string hs, .slice a n c] 66)).alloc (.cells #[.slice aw B.length cw] 61)).alloc (.cells #[.slice none 0 0] 61)) none := gb_trans (gb_trans (gb_alloc _ _ _) (gb_alloc _ _ _)) (gb_alloc _ _ _)
  exact ⟨(b1.alloc _).alloc _, b2.alloc _, b3, b2.alloc _, own_keep0 h g, own_keep0 h g, g⟩
theorem w5_step {w w1 w2 : World} {base : Nat} {hs : ByteArray} {a : Option Addr} {n c : Nat} {aw : Option Addr} {cw : Nat} {B : List Bool} {xb : Nat} {am : Option Addr} {cm : Nat} {M : List Bool} {q1 q2 q3 q4 : Addr} {x y z t : Value}
    (h : w1.cell? q1 = some x ∧ w1.cell? q2 = some y ∧ w1.cell? q3 = some z ∧ w1.cell? q4 = some t ∧ WIn w base hs a n c aw cw B xb am cm M w1) (k : w1.grownBy w2 none) :
    w2.cell? q1 = some x ∧ w2.cell? q2 = some y ∧ w2.cell? q3 = some z ∧ w2.cell? q4 = some t ∧ WIn w base hs a n c aw cw B xb am cm M w2 :=
  ⟨cell_grown h.1 k, cell_grown h.2.1 k, cell_grown h.2.2.1 k, cell_grown h.2.2.2.1 k, h.2.2.2.2.step k⟩
theorem w5_row {w w1 : World} {base : Nat} {hs : ByteArray} {a : Option Addr} {n c : Nat} {aw : Option Addr} {cw : Nat} {B : List Bool} {xb : Nat} {am : Option Addr} {cm : Nat} {M : List Bool} {p1 p2 p3 p4 : Prop} (h : p1 ∧ p2 ∧ p3 ∧ p4 ∧ WIn w base hs a n c aw cw B xb am cm M w1) : BRow w1 base (.slice am M.length cm) M := h.2.2.2.2.2.2.2.2.2.1
theorem w5_size {w w1 : World} {base : Nat} {hs : ByteArray} {a : Option Addr} {n c : Nat} {aw : Option Addr} {cw : Nat} {B : List Bool} {xb : Nat} {am : Option Addr} {cm : Nat} {M : List Bool} {p1 p2 p3 p4 : Prop} (h : p1 ∧ p2 ∧ p3 ∧ p4 ∧ WIn w base hs a n c aw cw B xb am cm M w1) (hb : base ≤ w.heap.size) : base ≤ w1.heap.size := Nat.le_trans hb h.2.2.2.2.2.2.2.2.2.2.size
theorem alloc_one2 {w w2 : World} {x : Value} {t : TypeId} (g : (w.drew.alloc (.cells #[x] t)).grownBy w2 none) : w2.cell? ⟨w.heap.size, 0, none⟩ = some x ∧ w2.frozen? ⟨w.heap.size, 0, none⟩ = false ∧ IsB w2 w.heap.size t #[x] := by
  have h : IsB w2 w.heap.size t #[x] := (IsB.new w.drew t #[x]).keep0 g
  exact ⟨h.cell 0, h.free 0, h⟩
theorem w5_fin2 {w1 : World} {base g : Nat} {L1 : List Bool} {v u : Value} {cs : Array Value} (b : BRow w1 base v L1) (yb : IsB w1 g 61 cs) : BRow (w1.setCell ⟨g, 0, none⟩ u) base v L1 := own_keepS b (gb_set _ _ _ _) yb (by decide)
theorem wrH_run {hs : ByteArray} {L : List Fld} {vals : List Int} {B : List Bool} (h : chkH hs L = 0) (e : vals.length = L.length) (er : Int) (B1 : List Bool) (hq : pkRun B (vals.zip (wsL L)) = (er, B1)) : wrH hs L vals B = if er = 0 then (0, B1) else (er, B) := by
  have k := pkRun_app B (vals.zip (wsL L)) []
  rw [List.append_nil, hq] at k
  unfold wrH
  rw [if_neg (show ¬ ¬ chkH hs L = 0 from fun x => x h), if_neg (show ¬ ¬ vals.length = L.length from fun x => x e), ← k.1]
  by_cases e2 : er = 0
  · rw [if_pos e2, if_pos e2, ← k.2 (by rw [← k.1]; exact e2)]
  · rw [if_neg e2, if_neg e2]
set_option maxRecDepth 100000 in
set_option maxHeartbeats 8000000 in
theorem rwriteH_any (w : World) (hs9 : ByteArray) (a : Option Addr) (n c : Nat) (L : List Fld) (h : HdOk w hs9 a n c L) (base : Nat) (aw : Option Addr) (cw : Nat) (B : List Bool) (hbase : base ≤ w.heap.size) (hR : BRow w base (.slice aw B.length cw) B)
    (a2 : Option Addr) (len2 cap2 : Nat) (vals : List Int) (hv : SlR w a2 len2 cap2 (vals.map (Value.int .u32))) (hv2 : ∀ x ∈ vals, 0 ≤ x ∧ x < 4294967296) (hB : B.length ≤ 10000) (er : Int) (B2 : List Bool) (hq : wrH hs9 L vals B = (er, B2)) :
    Calls Try.prog 27 #[.agg #[.string hs9, .slice a n c], .slice a2 len2 cap2, .agg #[.slice aw B.length cw]] w (RWr er base B2 w) := by
  have hvl : vals.length = len2 := by simpa using hv.1
  subst hvl
  have HH := Lib.hid h
  have HV := Lib.hid hv
  have HV2 := Lib.hid hv2
  have HB := Lib.hid hB
  have HQ := Lib.hid hq
  have P0 := Lib.hid (win_new w base hs9 a n c aw cw B hR)
  have HC0 := Lib.hid (rcheck_any _ hs9 a n c L (h.sf.keep0 P0.out.2.2.2.2.2.2) h.few h.nm h.hn)
  have CK := Lib.hid (chk_ok hs9 L)
  have RUN := Lib.hid (wrH_run (hs := hs9) (L := L) (vals := vals) (B := B))
  have HE := Lib.hid (show wrH hs9 L vals B = if ¬ chkH hs9 L = 0 then (chkH hs9 L, B) else if ¬ vals.length = L.length then (2, B) else if (pkRun [] (vals.zip (wsL L))).1 = 0 then (0, B ++ (pkRun [] (vals.zip (wsL L))).2) else ((pkRun [] (vals.zip (wsL L))).1, B) from rfl)
  have hll := h.sf.len
  have HLL := Lib.hid hll
  clear h hv hv2 hB hq hR
  rw [HQ.out, hll] at HE
  obtain ⟨q, hqq⟩ : ∃ q, q = chkH hs9 L := ⟨_, rfl⟩
  rw [← hqq] at HC0 HE CK RUN
  clear hqq hll
  by_cases q0 : q = 0
  · have CKt := Lib.hid (CK.out q0)
    have RUNt := Lib.hid (RUN.out q0)
    rw [if_neg (show ¬ ¬ q = 0 from fun x => x q0)] at HE
    clear CK RUN
    subst q0
    go_enter Try.func27, Try.ntmps27
    go_wp2_with fail
    refine HC0.out.mono ?_
    rintro e w2 ⟨rfl, g2⟩
    have P4 := Lib.hid (P0.out.step g2)
    have b0 := P4.out.1.cell 0
    have b1 := P4.out.1.cell 1
    have c0 := P4.out.2.1.cell 0
    have f0 := P4.out.2.2.1.free 0
    have d0 := P4.out.2.2.1.cell 0
    simp at b0 b1 c0 d0
    clear g2 P0 HC0
    by_cases e1 : vals.length = n
    · have hne : ((vals.length : Int) != n) = false := by rw [bne_eq_false_iff_eq]; omega
      rw [if_neg (show ¬ ¬ vals.length = n from fun x => x e1)] at HE
      obtain ⟨er1, B1, hpk⟩ : ∃ x y, pkRun B (vals.zip (wsL L)) = (x, y) := ⟨_, _, rfl⟩
      have HPK := Lib.hid hpk
      have HQ2 := Lib.hid (show (er, B2) = if er1 = 0 then (0, B1) else (er1, B) by rw [← HQ.out]; exact RUNt.out (by rw [HLL.out]; exact e1) er1 B1 hpk)
      have hn12 : n ≤ 12 := by have := CKt.out.2.1; rw [HLL.out] at this; exact this
      have hwl : (wsL L).length = n := by rw [wsL_len, HLL.out]
      have HWL := Lib.hid hwl
      have E1 := Lib.hid e1
      clear hpk hwl RUNt HE e1
      go_wp2_with fail
      have N1 := Lib.hid (show WIn w base hs9 a n c aw cw B w2.heap.size aw cw B (w2.alloc (.cells #[.slice aw B.length cw] 61)) from ⟨P4.out.1.alloc _, P4.out.2.1.alloc _, P4.out.2.2.1.alloc _, IsB.new _ _ _, own_keep0 P4.out.2.2.2.2.1 (gb_alloc _ _ _), own_keep0 P4.out.2.2.2.2.1 (gb_alloc _ _ _), gb_trans P4.out.2.2.2.2.2.2 (gb_alloc _ _ _)⟩)
      have XB := Lib.hid (show w.heap.size + 2 < w2.heap.size from P4.out.2.2.1.lt)
      generalize w2.heap.size = xb at *
      clear P4 b0 b1 c0 d0 f0
      go_loopw [10] (fun i wr => ∃ (k : Nat) (M : List Bool) (am : Option Addr) (cm : Nat), k ≤ n ∧ i = .int .i64 k ∧ WIn w base hs9 a n c aw cw B xb am cm M wr ∧ pkRun M ((vals.zip (wsL L)).drop k) = (er1, B1) ∧ M.length ≤ B.length + 32 * k) (fun i _ => n - (intOf i).toNat)
      case atStart => exact ⟨0, B, aw, cw, Nat.zero_le _, rfl, N1.out, HPK.out, by omega⟩
      case round =>
        obtain ⟨k, M, am, cm, hk, rfl, hp, hq1, hl1⟩ := hrel
        clear N1
        have P := Lib.hid hp
        have HQ1 := Lib.hid hq1
        have HLEN := Lib.hid (show M.length ≤ 50000 by have := HB.out; omega)
        have HL1 := Lib.hid hl1
        clear hp hq1 hl1
        by_cases hlt : k < n
        · cases a2 with
          | none => exact absurd (HV.out.2.1 rfl).1 (by have := E1.out; omega)
          | some ad =>
          have sf := HH.out.sf.keep0 P.out.2.2.2.2.2.2
          obtain ⟨ad2, rfl⟩ := sf_some sf (by omega)
          obtain ⟨c0, c1⟩ := sf.cells ad2 rfl k hlt
          have hkv : (k : Int) < vals.length := by have := E1.out; omega
          have i1 : (k : Int) < n := by omega
          have i9 : (0 : Int) ≤ (k : Int) := by omega
          have hl : k < L.length := by rw [HLL.out]; exact hlt
          have hc1 := (HV.out.keep0 P.out.2.2.2.2.2.2).cellAt k (by have := E1.out; omega)
          have hx := HV2.out (vals.getD k 0) (by rw [List.getD_eq_getElem?_getD, List.getElem?_eq_getElem (by have := E1.out; omega)]; exact List.getElem_mem _)
          have hz := HQ1.out
          rw [zip_drop vals (wsL L) k (by have := E1.out; omega) (by rw [HWL.out]; exact hlt), wsL_get L k hl] at hz
          obtain ⟨p, hp⟩ : ∃ p, p = L.getD k fz := ⟨_, rfl⟩
          rw [← hp] at c0 c1 hz
          obtain ⟨v, nk⟩ := p
          generalize vals.getD k 0 = x at *
          obtain ⟨e1, L1, hs⟩ : ∃ e1 L1, wrStep M x nk = (e1, L1) := ⟨_, _, rfl⟩
          have HS := Lib.hid hs
          have HX := Lib.hid hx
          have hlen1 := pkRun_len M x nk
          rw [hs] at hlen1
          rw [pkRun, hs] at hz
          have HZ := Lib.hid hz
          have LE1 := Lib.hid hlen1
          have b1 := P.out.1.cell 1
          simp at b1
          have SB := Lib.hid (show wr.cell? ⟨xb, 0, none⟩ = some (.slice am M.length cm) ∧ wr.cell? (ad.add k) = some (.int .u32 x) ∧ wr.cell? ⟨w.heap.size, 1, none⟩ = some (.slice (some ad2) n c) ∧ wr.cell? ⟨(ad2.add (k * 2)).block, (ad2.add (k * 2)).off + 1, none⟩ = some (.int .i64 nk) ∧ WIn w base hs9 (some ad2) n c aw cw B xb am cm M wr from ⟨P.out.2.2.2.1.cell 0, hc1, b1, c1, P.out⟩)
          clear hz hs hx hlen1 hc1 c0 c1 P HQ1 hp hl sf
          go_wp2_with fail
          have hb0 := SB.out
          go_region_held3 (fun w' => w'.cell? ⟨xb, 0, none⟩ = some (.slice am M.length cm) ∧ w'.cell? (ad.add k) = some (.int .u32 x) ∧ w'.cell? ⟨w.heap.size, 1, none⟩ = some (.slice (some ad2) n c) ∧ w'.cell? ⟨(ad2.add (k * 2)).block, (ad2.add (k * 2)).off + 1, none⟩ = some (.int .i64 nk) ∧ WIn w base hs9 (some ad2) n c aw cw B xb am cm M w')
            (first | exact w5_step (by assumption) (by assumption) | exact w5_step (by assumption) (gb_alloc _ _ _) | exact w5_step hb0 (gb_drew _ _) | exact w5_step hb0 (gb_trans (gb_drew _ _) (gb_trans (by assumption) (gb_alloc _ _ _))) | exact w5_step hb0 (gb_trans (gb_drew _ _) (gb_set1 (gb_trans (gb_alloc _ _ _) (by assumption)) (Nat.le_refl _))) | exact hb0 | assumption)
            (first | (go_at_call 54; refine (rwrite_any _ base am cm M x nk (w5_row (by assumption)) (w5_size (by assumption) hbase) HLEN.out HX.out.1 HX.out.2 e1 L1 HS.out).mono ?_; rintro e w' ⟨v', rfl, g, o⟩; obtain ⟨a1, c1, rfl⟩ := own_shape o; (first | (have yb := alloc_one2 g; obtain ⟨y0, z0, yb⟩ := yb) | skip)))
          all_goals
            rename_i hs
            first | (have OF := w5_fin2 o yb (u := .slice a1 L1.length c1)) | (have OF := own_keep0 o (gb_alloc _ (.cells #[.slice a1 L1.length c1] 61) none))
            have PF := Lib.hid hs.2.2.2.2
            have OG := Lib.hid OF
            have c0 := hs.1
            have f0 := PF.out.2.2.2.1.free 0
            have f1 := PF.out.2.2.1.free 0
            have c2 := PF.out.2.1.cell 0
            have d1 := PF.out.2.2.1.cell 0
            simp at c2 d1
            clear hs OF hb0 SB o g b1
            by_cases he : e1 = 0
            · subst he
              have HZ3 := Lib.hid (show pkRun L1 ((vals.zip (wsL L)).drop (k + 1)) = (er1, B1) by have := HZ.out; rwa [if_pos rfl] at this)
              go_wp2
              go_roundw
              case rel => exact ⟨k + 1, L1, a1, c1, by omega, by go_num, ⟨PF.out.1.keepS (gb_set _ _ _ _) PF.out.2.2.2.1 (by decide), PF.out.2.1.set_far (by have := XB.out; omega) 0 _, PF.out.2.2.1.set_far (by have := XB.out; omega) 0 _, PF.out.2.2.2.1.set 0 _, own_keepS PF.out.2.2.2.2.1 (gb_set _ _ _ _) PF.out.2.2.2.1 (by decide), own_keepS OG.out (gb_set _ _ _ _) PF.out.2.2.2.1 (by decide), gb_set1 PF.out.2.2.2.2.2.2 (by have := XB.out; omega)⟩, HZ3.out, by have := LE1.out; have := HL1.out; omega⟩
              case measure => simp [intOf]; omega
            · have HZ3 := Lib.hid (show e1 = er1 ∧ L1 = B1 by have := HZ.out; rw [if_neg he] at this; simpa using this)
              have hne2 : (e1 != 0) = true := by simpa using he
              have HQ3 := Lib.hid (show er = e1 ∧ B2 = B by have := HQ2.out; rw [← HZ3.out.1, if_neg he] at this; simpa using this)
              have N3 := PF.out.2.2.1.set 0 (.slice aw B.length cw)
              have g0 := N3.cell 0
              simp at g0
              have FIN := Lib.hid (show RWr er base B2 w (.returned (.tuple #[.agg #[.slice aw B.length cw], .int .i64 e1])) _ from ⟨_, by rw [HQ3.out.1], gb_set1 (g := w.heap.size + 2) (i := 0) (u := .slice aw B.length cw) PF.out.2.2.2.2.2.2 (by omega), by rw [HQ3.out.2]; exact own_keepS PF.out.2.2.2.2.1 (gb_set _ _ _ _) PF.out.2.2.1 (by decide)⟩)
              clear he
              go_wp2
              refine bodyPost_ret (v := .tuple #[.agg #[.slice aw B.length cw], .int .i64 e1]) (by simp [results, Try.results27, go_sem, g0]) rfl FIN.out
        · have hkk : ¬ (k : Int) < vals.length := by have := E1.out; omega
          have hke : k = n := by omega
          have HZ3 := Lib.hid (show 0 = er1 ∧ M = B1 by have := HQ1.out; rw [zip_end vals (wsL L) k (by rw [HWL.out]; omega)] at this; simpa [pkRun] using this)
          have HQ3 := Lib.hid (show er = 0 ∧ B2 = M by have := HQ2.out; rw [← HZ3.out.1, if_pos rfl, ← HZ3.out.2] at this; simpa using this)
          have c0 := P.out.2.2.2.1.cell 0
          have f1 := P.out.2.2.1.free 0
          have d1 := P.out.2.2.1.cell 0
          simp at c0 d1
          have N3 := P.out.2.2.1.set 0 (.slice am M.length cm)
          have g0 := N3.cell 0
          simp at g0
          have FIN := Lib.hid (show RWr er base B2 w (.returned (.tuple #[.agg #[.slice am M.length cm], .int .i64 0])) _ from ⟨_, by rw [HQ3.out.1], gb_set1 (g := w.heap.size + 2) (i := 0) (u := .slice am M.length cm) P.out.2.2.2.2.2.2 (by omega), by rw [HQ3.out.2]; exact own_keepS P.out.2.2.2.2.2.1 (gb_set _ _ _ _) P.out.2.2.1 (by decide)⟩)
          clear HQ3 HZ3 HQ2
          go_wp2
          refine bodyPost_ret (v := .tuple #[.agg #[.slice am M.length cm], .int .i64 0]) (by simp [results, Try.results27, go_sem, g0]) rfl FIN.out
    · have hne : ((vals.length : Int) != n) = true := by rw [bne_iff_ne]; omega
      rw [if_pos e1] at HE
      have E := HE.out
      simp only [Prod.mk.injEq] at E
      obtain ⟨rfl, rfl⟩ := E
      have N3 := P4.out.2.2.1.set 0 (.slice aw B2.length cw)
      have g0 := N3.cell 0
      simp at g0
      have FIN := Lib.hid (show RWr 2 base B2 w (.returned (.tuple #[.agg #[.slice aw B2.length cw], .int .i64 2])) _ from ⟨_, rfl, gb_set1 (g := w.heap.size + 2) (i := 0) (u := .slice aw B2.length cw) P4.out.2.2.2.2.2.2 (by omega), own_keepS P4.out.2.2.2.2.1 (gb_set _ _ _ _) P4.out.2.2.1 (by decide)⟩)
      clear e1 HQ HE RUNt
      go_wp2
      refine bodyPost_ret (v := .tuple #[.agg #[.slice aw B2.length cw], .int .i64 2]) (by simp [results, Try.results27, go_sem, g0]) rfl FIN.out
  · have d1 : (q == 0) = false := by simp [q0]
    have d2 : (q != 0) = true := by simp [q0]
    rw [if_pos q0] at HE
    have E := HE.out
    simp only [Prod.mk.injEq] at E
    obtain ⟨rfl, rfl⟩ := E
    clear q0 RUN CK HE HQ
    go_enter Try.func27, Try.ntmps27
    go_wp2_with fail
    refine HC0.out.mono ?_
    rintro e w2 ⟨rfl, g2⟩
    have P4 := Lib.hid (P0.out.step g2)
    have c0 := P4.out.2.1.cell 0
    have f0 := P4.out.2.2.1.free 0
    have d3 := P4.out.2.2.1.cell 0
    simp at c0 d3
    clear g2 P0
    have N3 := P4.out.2.2.1.set 0 (.slice aw B2.length cw)
    have g0 := N3.cell 0
    simp at g0
    have FIN := Lib.hid (show RWr er base B2 w (.returned (.tuple #[.agg #[.slice aw B2.length cw], .int .i64 er])) _ from ⟨_, rfl, gb_set1 (g := w.heap.size + 2) (i := 0) (u := .slice aw B2.length cw) P4.out.2.2.2.2.2.2 (by omega), own_keepS P4.out.2.2.2.2.1 (gb_set _ _ _ _) P4.out.2.2.1 (by decide)⟩)
    go_wp2
    refine bodyPost_ret (v := .tuple #[.agg #[.slice aw B2.length cw], .int .i64 er]) (by simp [results, Try.results27, go_sem, g0]) rfl FIN.out
end Go.Proofs.Ytjhknmklejkknaa
end
section
namespace Go.Proofs.Ytjhknmklejkknaa
open Go.RowKit
set_option linter.unusedVariables false

def bitsL : List (Int × Int) → List Bool
  | [] => []
  | (v, n) :: t => bitsOf v n.toNat ++ bitsL t
/-- Every value fits its width. -/
def fitL (ps : List (Int × Int)) : Prop := ∀ p ∈ ps, (1 ≤ p.2 ∧ p.2 ≤ 32) ∧ 0 ≤ p.1 ∧ p.1 < 2 ^ p.2.toNat
theorem pkRun_fit (ps : List (Int × Int)) (h : fitL ps) : ∀ L, pkRun L ps = (0, L ++ bitsL ps) := by
  induction ps with
  | nil => intro L; simp [pkRun, bitsL]
  | cons p t ih =>
    intro L
    obtain ⟨v, n⟩ := p
    obtain ⟨hn, h0, h1⟩ := h (v, n) (by simp)
    unfold pkRun
    rw [wr_good L v n hn h1]
    simp only [if_true]
    rw [ih (fun q hq => h q (by simp [hq]))]
    simp [bitsL]
theorem acc_mid (pre post : List Bool) (v : Int) (n : Nat) (h0 : 0 ≤ v) (h1 : v < 2 ^ n) : accB (packB (pre ++ bitsOf v n ++ post)) pre.length n = v := by
  refine acc_of _ _ _ _ h0 h1 ?_
  intro i hi
  have hlen : pre.length + i < (pre ++ bitsOf v n ++ post).length := by simp only [List.length_append, bitsOf_len]; omega
  rw [bit_pack _ _ hlen]
  have e : (pre ++ bitsOf v n ++ post).getD (pre.length + i) false = vb v n i := by
    rw [List.append_assoc, List.getD_eq_getElem?_getD, List.getElem?_append_right (by omega), Nat.add_sub_cancel_left, List.getElem?_append_left (by rw [bitsOf_len]; exact hi)]
    simp [bitsOf, hi]
  unfold bv
  rw [e]
  unfold vb
  by_cases q : v / 2 ^ (n - 1 - i) % 2 = 1
  · simp [q]
  · simp [q]; omega
theorem nums_back (ps : List (Int × Int)) (h : fitL ps) : ∀ pre post, numsB (packB (pre ++ bitsL ps ++ post)) pre.length (ps.map (·.2)) = ps.map (·.1) := by
  induction ps with
  | nil => intro pre post; rfl
  | cons p t ih =>
    intro pre post
    obtain ⟨v, n⟩ := p
    obtain ⟨hn, h0, h1⟩ := h (v, n) (by simp)
    simp only [List.map_cons, numsB, bitsL]
    have e1 := acc_mid pre (bitsL t ++ post) v n.toNat h0 h1
    have e2 := ih (fun q hq => h q (by simp [hq])) (pre ++ bitsOf v n.toNat) post
    rw [show pre ++ bitsOf v n.toNat ++ (bitsL t ++ post) = pre ++ (bitsOf v n.toNat ++ bitsL t) ++ post by simp [List.append_assoc]] at e1
    rw [show pre ++ bitsOf v n.toNat ++ bitsL t ++ post = pre ++ (bitsOf v n.toNat ++ bitsL t) ++ post by simp [List.append_assoc]] at e2
    rw [e1]
    congr 1
    rw [← e2]
    simp [bitsOf_len]
theorem bitsL_len (ps : List (Int × Int)) : (bitsL ps).length = sumL (ps.map (·.2)) := by
  induction ps with
  | nil => rfl
  | cons p t ih => obtain ⟨v, n⟩ := p; simp [bitsL, sumL, ih, bitsOf_len]
end Go.Proofs.Ytjhknmklejkknaa
end
