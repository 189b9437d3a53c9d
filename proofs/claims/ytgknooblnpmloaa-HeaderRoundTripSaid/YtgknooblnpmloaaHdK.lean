/- Header: the walk of the reference's Read; no condition but sizes. -/
import Derived.Test.YtgknooblnpmloaaHdJ
namespace Go.Proofs.Ytgknooblnpmloaa
open Go.RowKit
set_option linter.unusedVariables false

/-- What the reference's Read holds: its header, its reader, its result, the bytes, the numbers so far. -/
def HIn (w : World) (base : Nat) (hs : ByteArray) (a : Option Addr) (n c : Nat) (ax : Option Addr) (cx : Nat) (bs : List Int) (pos : Nat) (U : Value) (us : List Int) (w' : World) : Prop :=
  IsB w' w.heap.size 24 #[.string hs, .slice a n c] ∧ IsB w' (w.heap.size + 1) 37 #[.slice ax bs.length cx, .int .i64 pos] ∧ IsB w' (w.heap.size + 2) 37 #[.slice none 0 0, .int .i64 0] ∧
  w'.ownsRow base 5 1 (.slice ax bs.length cx) bs.length (bs.map (Value.int .u8)) ∧ UL w' w.heap.size U us ∧ w.grownBy w' none
theorem HIn.step {w w1 w2 : World} {base : Nat} {hs : ByteArray} {a : Option Addr} {n c : Nat} {ax : Option Addr} {cx : Nat} {bs : List Int} {pos : Nat} {U : Value} {us : List Int} (h : HIn w base hs a n c ax cx bs pos U us w1) (k : w1.grownBy w2 none) : HIn w base hs a n c ax cx bs pos U us w2 :=
  ⟨h.1.keep0 k, h.2.1.keep0 k, h.2.2.1.keep0 k, own_keep0 h.2.2.2.1 k, h.2.2.2.2.1.keep0 k, gb_trans h.2.2.2.2.2 k⟩
theorem HIn.turn {w w1 : World} {base : Nat} {hs : ByteArray} {a : Option Addr} {n c : Nat} {ax : Option Addr} {cx : Nat} {bs : List Int} {pos : Nat} {U : Value} {us : List Int} (h : HIn w base hs a n c ax cx bs pos U us w1) (pos2 : Nat) :
    HIn w base hs a n c ax cx bs pos2 U us ((w1.setCell ⟨w.heap.size + 1, 0, none⟩ (.slice ax bs.length cx)).setCell ⟨w.heap.size + 1, 1, none⟩ (.int .i64 pos2)) := by
  obtain ⟨h1, h2, h3, h4, h5, h6⟩ := h
  have g0 := gb_set w1 (w.heap.size + 1) 0 (.slice ax bs.length cx)
  have n0 := h2.set 0 (.slice ax bs.length cx)
  have g1 := gb_set (w1.setCell ⟨w.heap.size + 1, 0, none⟩ (.slice ax bs.length cx)) (w.heap.size + 1) 1 (.int .i64 pos2)
  have n1 := n0.set 1 (.int .i64 pos2)
  exact ⟨(h1.keepS g0 h2 (by decide)).keepS g1 n0 (by decide), n1, (h3.set_far (by omega) 0 _).set_far (by omega) 1 _, own_keepS (own_keepS h4 g0 h2 (by decide)) g1 n0 (by decide), own_keepS (own_keepS h5 g0 h2 (by decide)) g1 n0 (by decide), gb_set2 h6 (by omega)⟩
theorem hin_new (w : World) (base : Nat) (hs : ByteArray) (a : Option Addr) (n c : Nat) (ax : Option Addr) (cx : Nat) (bs : List Int) (pos : Nat) (h : w.ownsRow base 5 1 (.slice ax bs.length cx) bs.length (bs.map (Value.int .u8))) :
    HIn w base hs a n c ax cx bs pos (.slice none 0 0) [] (((w.alloc (.cells #[.string hs, .slice a n c] 24)).alloc (.cells #[.slice ax bs.length cx, .int .i64 pos] 37)).alloc (.cells #[.slice none 0 0, .int .i64 0] 37)) := by
  have b1 := IsB.new w 24 #[.string hs, .slice a n c]
  have b2 := IsB.new (w.alloc (.cells #[.string hs, .slice a n c] 24)) 37 #[.slice ax bs.length cx, .int .i64 pos]
  have b3 := IsB.new ((w.alloc (.cells #[.string hs, .slice a n c] 24)).alloc (.cells #[.slice ax bs.length cx, .int .i64 pos] 37)) 37 #[.slice none 0 0, .int .i64 0]
  rw [show (w.alloc (.cells #[.string hs, .slice a n c] 24)).heap.size = w.heap.size + 1 by simp] at b2
  rw [show ((w.alloc (.cells #[.string hs, .slice a n c] 24)).alloc (.cells #[.slice ax bs.length cx, .int .i64 pos] 37)).heap.size = w.heap.size + 2 by simp] at b3
  exact ⟨(b1.alloc _).alloc _, b2.alloc _, b3, own_keep0 h (gb_trans (gb_trans (gb_alloc _ _ _) (gb_alloc _ _ _)) (gb_alloc _ _ _)), World.ownsRow_nil _ _ _ _, gb_trans (gb_trans (gb_alloc _ _ _) (gb_alloc _ _ _)) (gb_alloc _ _ _)⟩
/-- The reader where it was or moved, numbers of the call's own, an error code. -/
def RdH (ax : Option Addr) (m cx pos2 : Nat) (us : List Int) (er : Int) (w : World) (e : Ending) (w' : World) : Prop :=
  ∃ v', e = .returned (.tuple #[.agg #[.slice ax m cx, .int .i64 pos2], v', .int .i64 er]) ∧ w.grownBy w' none ∧ UL w' w.heap.size v' us
theorem hs_step {w w1 w2 : World} {base : Nat} {hs : ByteArray} {a : Option Addr} {n c : Nat} {ax : Option Addr} {cx : Nat} {bs : List Int} {pos : Nat} {U : Value} {us : List Int} {p : Addr} {x y z t : Value} {q1 q2 q3 : Addr}
    (h : w1.cell? q1 = some x ∧ w1.cell? q2 = some y ∧ w1.cell? q3 = some t ∧ w1.cell? p = some z ∧ HIn w base hs a n c ax cx bs pos U us w1) (k : w1.grownBy w2 none) :
    w2.cell? q1 = some x ∧ w2.cell? q2 = some y ∧ w2.cell? q3 = some t ∧ w2.cell? p = some z ∧ HIn w base hs a n c ax cx bs pos U us w2 :=
  ⟨cell_grown h.1 k, cell_grown h.2.1 k, cell_grown h.2.2.1 k, cell_grown h.2.2.2.1 k, h.2.2.2.2.step k⟩
theorem hs_row {w w1 : World} {base : Nat} {hs : ByteArray} {a : Option Addr} {n c : Nat} {ax : Option Addr} {cx : Nat} {bs : List Int} {pos : Nat} {U : Value} {us : List Int} {p1 p2 p3 p4 : Prop} (h : p1 ∧ p2 ∧ p3 ∧ p4 ∧ HIn w base hs a n c ax cx bs pos U us w1) : w1.ownsRow base 5 1 (.slice ax bs.length cx) bs.length (bs.map (Value.int .u8)) := h.2.2.2.2.2.2.2.1
theorem nums_take (bs : List Int) (l : List Int) : ∀ (pos k : Nat), k < l.length → (numsB bs pos l).take (k + 1) = (numsB bs pos l).take k ++ [accB bs (pos + sumL (l.take k)) (l.getD k 0).toNat] := by
  intro pos k h
  rw [← nums_at bs l pos k h, List.take_add_one]
  simp [numsB_len, h]
theorem one_cell2 (w : World) (t : TypeId) (x : Value) (n : Nat) (hn : n = w.heap.size) : ∀ (j : Nat) (u : Value), ([x] : List Value)[j]? = some u → (w.alloc (.cells #[x] t)).cell? ((⟨n, 0, none⟩ : Addr).add j) = some u := by
  intro j u hj
  subst hn
  match j, hj with
  | 0, hj => simp at hj; subst hj; simp [Addr.add]
theorem one_one2 (x : Value) (h : x.oneCell' = true) : ∀ u ∈ [x], u.oneCell' = true := by
  intro u hu; simp at hu; subst hu; exact h
theorem alloc_isb2 {w w2 : World} {cs : Array Value} {t : TypeId} (g : (w.drew.alloc (.cells cs t)).grownBy w2 none) : IsB w2 w.heap.size t cs := (IsB.new w.drew t cs).keep0 g
set_option maxRecDepth 100000 in
set_option maxHeartbeats 8000000 in
theorem rreadH_any (w : World) (hs9 : ByteArray) (a : Option Addr) (n c : Nat) (L : List Fld) (h : HdOk w hs9 a n c L) (base : Nat) (ax : Option Addr) (cx : Nat) (bs : List Int) (pos : Nat)
    (hR : w.ownsRow base 5 1 (.slice ax bs.length cx) bs.length (bs.map (Value.int .u8))) (hbase : base ≤ w.heap.size)
    (hb : ∀ b ∈ bs, 0 ≤ b ∧ b ≤ 255) (hbl : bs.length ≤ 60000) (hp : pos ≤ 8 * bs.length) (er : Int) (us : List Int) (pos2 : Nat) (hq : rdH hs9 L bs pos = (er, us, pos2)) :
    Calls Try.prog 21 #[.agg #[.string hs9, .slice a n c], .agg #[.slice ax bs.length cx, .int .i64 pos]] w (RdH ax bs.length cx pos2 us er w) := by
  obtain ⟨i0, hi, hz0, hz1, hz2⟩ := info_parts infoU32
  have HI := Lib.hid hi
  have HH := Lib.hid h
  have HB := Lib.hid hb
  have HQ := Lib.hid hq
  have P0 := Lib.hid (hin_new w base hs9 a n c ax cx bs pos hR)
  have HC := Lib.hid (fun w' (g : w.grownBy w' none) => rcheck_any w' hs9 a n c L (h.sf.keep0 g) h.few h.nm h.hn)
  have HC0 := Lib.hid (HC.out _ P0.out.2.2.2.2.2)
  have GL := Lib.hid (chk_ok hs9 L)
  have BT := Lib.hid (fun w' (g : w.grownBy w' none) => rbits_any w' hs9 a n c L (h.keep0 g))
  have HY := Lib.hid (bits_ok (hs := hs9) (L := L))
  clear h hR hq hb hi
  unfold rdH at HQ
  obtain ⟨q, hqq⟩ : ∃ q, q = chkH hs9 L := ⟨_, rfl⟩
  rw [← hqq] at HC HC0 HQ GL HY
  obtain ⟨bt, hbt⟩ : ∃ q, q = bitsH hs9 L := ⟨_, rfl⟩
  rw [← hbt] at BT HY
  clear hqq HC hbt
  by_cases q0 : q = 0
  · have GLt := Lib.hid (GL.out q0)
    have HYt := Lib.hid (HY.out q0)
    rw [if_neg (by simp [q0]), ← HYt.out.1] at HQ
    clear GL HY
    subst q0
    go_enter Try.func21, Try.ntmps21
    go_wp2_with fail
    refine HC0.out.mono ?_
    rintro e w2 ⟨rfl, g2⟩
    have P2 := Lib.hid (P0.out.step g2)
    clear g2 HC0 P0
    have RM := Lib.hid (fun w' (g : w2.grownBy w' none) => rrem_any2 w' ax bs.length cx pos hbl hp)
    have BT3 := Lib.hid (fun w' (g : w2.grownBy w' none) => BT.out w' (gb_trans P2.out.2.2.2.2.2 g))
    have KS := Lib.hid (fun (w' : World) (q : w2.grownBy w' none) => (⟨(P2.out.1.keep0 q).cell 0, (P2.out.1.keep0 q).cell 1, (P2.out.2.1.keep0 q).cell 0, (P2.out.2.1.keep0 q).cell 1, q⟩ : (fun w' : World => w'.cell? ⟨w.heap.size, 0, none⟩ = some (.string hs9) ∧ w'.cell? ⟨w.heap.size, 1, none⟩ = some (.slice a n c) ∧ w'.cell? ⟨w.heap.size + 1, 0, none⟩ = some (.slice ax bs.length cx) ∧ w'.cell? ⟨w.heap.size + 1, 1, none⟩ = some (.int .i64 pos) ∧ w2.grownBy w' none) w'))
    go_wp2_with fail
    go_region_held3 (fun w' : World => w'.cell? ⟨w.heap.size, 0, none⟩ = some (.string hs9) ∧ w'.cell? ⟨w.heap.size, 1, none⟩ = some (.slice a n c) ∧ w'.cell? ⟨w.heap.size + 1, 0, none⟩ = some (.slice ax bs.length cx) ∧ w'.cell? ⟨w.heap.size + 1, 1, none⟩ = some (.int .i64 pos) ∧ w2.grownBy w' none)
      (first
        | assumption
        | exact KS.out _ (by repeat' first
                                  | assumption
                                  | exact (And.right (And.right (And.right (And.right (by assumption)))))
                                  | exact World.grownBy.refl _ _
                                  | exact gb_drew _ _
                                  | refine gb_trans ?_ (gb_drew _ _)
                                  | refine gb_trans ?_ (by assumption)))
      (first
        | (go_at_call 24; refine (RM.out _ (by repeat' first
                                  | assumption
                                  | exact (And.right (And.right (And.right (And.right (by assumption)))))
                                  | exact World.grownBy.refl _ _
                                  | exact gb_drew _ _
                                  | refine gb_trans ?_ (gb_drew _ _)
                                  | refine gb_trans ?_ (by assumption))).mono ?_; rintro e w' ⟨rfl, g, _⟩)
        | (go_at_call 15; refine (BT3.out _ (by repeat' first
                                  | assumption
                                  | exact (And.right (And.right (And.right (And.right (by assumption)))))
                                  | exact World.grownBy.refl _ _
                                  | exact gb_drew _ _
                                  | refine gb_trans ?_ (gb_drew _ _)
                                  | refine gb_trans ?_ (by assumption))).mono ?_; rintro e w' ⟨rfl, g⟩))
    have gS : w2.grownBy w' none := And.right (And.right (And.right (And.right (by assumption))))
    rename_i hHeld
    clear hHeld
    generalize w' = w4 at *
    have P4 := Lib.hid (P2.out.step gS)
    have b0 := P4.out.1.cell 0
    have b1 := P4.out.1.cell 1
    have c0 := P4.out.2.1.cell 0
    have c1 := P4.out.2.1.cell 1
    have f0 := P4.out.2.2.1.free 0
    have f1 := P4.out.2.2.1.free 1
    simp at b0 b1 c0 c1
    clear gS KS RM BT3 BT P2
    by_cases hsh : (bs.length : Int) * 8 - pos < bt
    · rw [if_pos hsh] at HQ
      have E := HQ.out
      simp only [Prod.mk.injEq] at E
      obtain ⟨rfl, rfl, rfl⟩ := E
      have d0 := P4.out.2.2.1.cell 0
      have d1 := P4.out.2.2.1.cell 1
      simp at d0 d1
      go_wp2
      have N3 := (P4.out.2.2.1.set 0 (.slice ax bs.length cx)).set 1 (.int .i64 pos)
      have e0 := N3.cell 0
      have e1 := N3.cell 1
      simp at e0 e1
      refine bodyPost_ret (v := .tuple #[.agg #[.slice ax bs.length cx, .int .i64 pos], .slice none 0 0, .int .i64 3]) (by simp [results, Try.results21, go_sem, e0, e1]) rfl ⟨_, rfl, gb_set2 P4.out.2.2.2.2.2 (by omega), World.ownsRow_nil _ _ _ _⟩
    · rw [if_neg hsh] at HQ
      have E := HQ.out
      simp only [Prod.mk.injEq] at E
      obtain ⟨rfl, hus, rfl⟩ := E
      have hfit : pos + sumL (wsL L) ≤ 8 * bs.length := by have := HYt.out.1; have := HYt.out.2.2.2; omega
      have hn12 : n ≤ 12 := by have := GLt.out.2.1; rw [HH.out.sf.len] at this; exact this
      have hwl : (wsL L).length = n := by rw [wsL_len, HH.out.sf.len]
      have HWL := Lib.hid hwl
      have NT := Lib.hid (nums_take bs (wsL L) pos)
      have hlen : (numsB bs pos (wsL L)).length = n := by rw [numsB_len, hwl]
      rw [hus] at NT hlen
      have HLEN := Lib.hid hlen
      have HFIT := Lib.hid hfit
      clear hus hwl hfit HQ hlen
      go_wp2_with fail
      go_loopw [8, 9] (fun u i wr => ∃ k : Nat, k ≤ n ∧ i = .int .i64 k ∧ HIn w base hs9 a n c ax cx bs (pos + sumL ((wsL L).take k)) u (us.take k) wr) (fun _ i _ => n - (intOf i).toNat)
      case atStart => exact ⟨0, Nat.zero_le _, rfl, by simpa [sumL] using P4.out⟩
      case round =>
        obtain ⟨k, hk, rfl, q1⟩ := hrel
        clear P4 b0 b1 c0 c1 f0 f1
        have P4 := Lib.hid q1
        obtain ⟨au, cu, rfl⟩ := UL.shape q1.2.2.2.2.1
        have hul : (us.take k).length = k := by simp; rw [HLEN.out]; omega
        clear q1
        by_cases hlt : k < n
        · have sf := HH.out.sf.keep0 P4.out.2.2.2.2.2
          obtain ⟨ad, rfl⟩ := sf_some sf (by omega)
          obtain ⟨c0, c1⟩ := sf.cells ad rfl k hlt
          have i1 : (k : Int) < n := by omega
          have i9 : (0 : Int) ≤ (k : Int) := by omega
          have hl : k < L.length := by rw [HH.out.sf.len]; exact hlt
          have hkw : k < (wsL L).length := by rw [HWL.out]; exact hlt
          have hgd := GLt.out.2.2.2.2 ((wsL L).getD k 0) (by simp [hkw])
          have hnt := NT.out k hkw
          have hst := sumL_step (wsL L) k hkw
          have hle := sumL_le (wsL L) (k + 1)
          rw [wsL_get L k hl] at hgd hnt hst
          obtain ⟨p, hp⟩ : ∃ p, p = L.getD k fz := ⟨_, rfl⟩
          rw [← hp] at c0 c1 hgd hnt hst
          obtain ⟨v, m⟩ := p
          obtain ⟨x, hx⟩ : ∃ x, x = accB bs (pos + sumL ((wsL L).take k)) m.toNat := ⟨_, rfl⟩
          have HS := Lib.hid (show rdStep bs (pos + sumL ((wsL L).take k)) m = (0, x, pos + sumL ((wsL L).take (k + 1))) by
            rw [rd_good _ _ _ hgd (by have := HFIT.out; simp only at hst; omega), hst, hx, Nat.add_assoc])
          have NT2 := Lib.hid (show us.take (k + 1) = us.take k ++ [x] by rw [hnt, hx])
          have HP := Lib.hid (show pos + sumL ((wsL L).take k) ≤ 8 * bs.length by have := HFIT.out; omega)
          obtain ⟨p1, hp1⟩ : ∃ q, q = pos + sumL ((wsL L).take k) := ⟨_, rfl⟩
          obtain ⟨p2, hp2⟩ : ∃ q, q = pos + sumL ((wsL L).take (k + 1)) := ⟨_, rfl⟩
          rw [← hp1] at HS HP P4
          rw [← hp2] at HS
          have HP2 := Lib.hid hp2
          obtain ⟨ut, hut⟩ : ∃ q, q = us.take k := ⟨_, rfl⟩
          rw [← hut] at hul P4 NT2 ⊢
          have HUL := Lib.hid hul
          have b1 := P4.out.1.cell 1
          simp at b1
          have SB := Lib.hid (show wr.cell? ⟨w.heap.size + 1, 0, none⟩ = some (.slice ax bs.length cx) ∧ wr.cell? ⟨w.heap.size + 1, 1, none⟩ = some (.int .i64 p1) ∧ wr.cell? ⟨w.heap.size, 1, none⟩ = some (.slice (some ad) n c) ∧ wr.cell? ⟨(ad.add (k * 2)).block, (ad.add (k * 2)).off + 1, none⟩ = some (.int .i64 m) ∧ HIn w base hs9 (some ad) n c ax cx bs p1 (.slice au ut.length cu) ut wr from ⟨P4.out.2.1.cell 0, P4.out.2.1.cell 1, b1, c1, P4.out⟩)
          clear hp hl hkw hgd hnt hst hle sf hx hp1 hp2 hut hul c0 c1
          go_wp2_with fail
          have hb0 := SB.out
          go_region_held3 (fun w' => w'.cell? ⟨w.heap.size + 1, 0, none⟩ = some (.slice ax bs.length cx) ∧ w'.cell? ⟨w.heap.size + 1, 1, none⟩ = some (.int .i64 p1) ∧ w'.cell? ⟨w.heap.size, 1, none⟩ = some (.slice (some ad) n c) ∧ w'.cell? ⟨(ad.add (k * 2)).block, (ad.add (k * 2)).off + 1, none⟩ = some (.int .i64 m) ∧ HIn w base hs9 (some ad) n c ax cx bs p1 (.slice au ut.length cu) ut w')
            (first | exact hs_step (by assumption) (by assumption) | exact hs_step (by assumption) (gb_alloc _ _ _) | exact hs_step hb0 (gb_drew _ _) | exact hs_step hb0 (gb_trans (gb_drew _ _) (gb_trans (by assumption) (gb_alloc _ _ _))) | exact hs_step hb0 (gb_trans (gb_drew _ _) (gb_set2 (gb_trans (gb_alloc _ _ _) (by assumption)) (Nat.le_refl _))) | exact hb0 | assumption)
            (first | (go_at_call 19; refine (rread_any _ base ax cx bs p1 m (hs_row (by assumption)) HB.out hbl HP.out 0 x p2 HS.out).mono ?_; rintro e w' ⟨rfl, g⟩; (first | (have yb := alloc_two g; obtain ⟨y0, y1, z0, z1⟩ := yb) | skip)))
          · rename_i hs
            have YB := Lib.hid (IsB.new w' 37 #[.slice ax bs.length cx, .int .i64 p2])
            clear g
            generalize w'.alloc (.cells #[.slice ax bs.length cx, .int .i64 p2] 37) = w6 at *
            generalize w'.heap.size = yb at *
            have PF := Lib.hid hs.2.2.2.2
            have c2 := hs.1
            have c3 := hs.2.1
            have f0 := PF.out.2.1.free 0
            have f1 := PF.out.2.1.free 1
            have y0 : w6.cell? ⟨yb, 0, none⟩ = some (.slice ax bs.length cx) := YB.out.cell 0
            have y1 : w6.cell? ⟨yb, 1, none⟩ = some (.int .i64 p2) := YB.out.cell 1
            have PT := Lib.hid (PF.out.turn p2)
            have PU := Lib.hid (PT.out.step (gb_alloc _ (.cells #[.int .u32 x] 39) none))
            have LE := Lib.hid (show ut.length ≤ 1000 by rw [HUL.out]; omega)
            clear hs hb0 SB PF PT
            go_wp2_with (at_builtin; refine wpList_append_own _ rfl _ _ 44 rfl w.heap.size 39 i0 (.int .u32 0) 1 4 Try.underlying44 HI.out hz0 hz1 hz2 rfl (by decide) _ ut.length (ut.map (Value.int .u32)) rfl PU.out.2.2.2.2.1 ⟨w6.heap.size, 0, none⟩ 1 1 [.int .u32 x] rfl rfl (one_cell2 _ _ _ _ (by simp)) (one_one2 _ rfl) ?c31 ?c41 ?c51 ?_)
            case c31 => have := LE.out; unfold maxLen; omega
            case c41 => have := LE.out; omega
            case c51 => have k := PU.out.2.2.2.2.2.size; first | exact k | simpa using k
            intro v' w5 hown5 hgrow _
            have UF := Lib.hid (show HIn w base hs9 (some ad) n c ax cx bs p2 v' (ut ++ [x]) w5 from ⟨PU.out.1.keep hgrow (fun e => own_ne PU.out.2.2.2.2.1 PU.out.1 (by decide) e.symm), PU.out.2.1.keep hgrow (fun e => own_ne PU.out.2.2.2.2.1 PU.out.2.1 (by decide) e.symm), PU.out.2.2.1.keep hgrow (fun e => own_ne PU.out.2.2.2.2.1 PU.out.2.2.1 (by decide) e.symm), PU.out.2.2.2.1.kept hgrow (own_two PU.out.2.2.2.1 PU.out.2.2.2.2.1 (by decide)), (by unfold UL; simpa using hown5), gb_row PU.out.2.2.2.2.2 hgrow PU.out.2.2.2.2.1⟩)
            clear hown5 hgrow PU
            go_wp2
            go_roundw
            case rel => exact ⟨k + 1, by omega, by go_num, by rw [NT2.out, ← HP2.out]; exact UF.out⟩
            case measure => simp [intOf]; omega
          · rename_i hs
            have YB := Lib.hid (show IsB ((w'.setCell ⟨wr.heap.size, 0, none⟩ (.slice ax bs.length cx)).setCell ⟨wr.heap.size, 1, none⟩ (.int .i64 p2)) wr.heap.size 37 #[.slice ax bs.length cx, .int .i64 p2] from ((alloc_isb2 g).set 0 (.slice ax bs.length cx)).set 1 (.int .i64 p2))
            clear g y0 y1 z0 z1
            generalize (w'.setCell ⟨wr.heap.size, 0, none⟩ (.slice ax bs.length cx)).setCell ⟨wr.heap.size, 1, none⟩ (.int .i64 p2) = w6 at *
            generalize wr.heap.size = yb at *
            have PF := Lib.hid hs.2.2.2.2
            have c2 := hs.1
            have c3 := hs.2.1
            have f0 := PF.out.2.1.free 0
            have f1 := PF.out.2.1.free 1
            have y0 : w6.cell? ⟨yb, 0, none⟩ = some (.slice ax bs.length cx) := YB.out.cell 0
            have y1 : w6.cell? ⟨yb, 1, none⟩ = some (.int .i64 p2) := YB.out.cell 1
            have PT := Lib.hid (PF.out.turn p2)
            have PU := Lib.hid (PT.out.step (gb_alloc _ (.cells #[.int .u32 x] 39) none))
            have LE := Lib.hid (show ut.length ≤ 1000 by rw [HUL.out]; omega)
            clear hs hb0 SB PF PT
            go_wp2_with (at_builtin; refine wpList_append_own _ rfl _ _ 44 rfl w.heap.size 39 i0 (.int .u32 0) 1 4 Try.underlying44 HI.out hz0 hz1 hz2 rfl (by decide) _ ut.length (ut.map (Value.int .u32)) rfl PU.out.2.2.2.2.1 ⟨w6.heap.size, 0, none⟩ 1 1 [.int .u32 x] rfl rfl (one_cell2 _ _ _ _ (by simp)) (one_one2 _ rfl) ?c32 ?c42 ?c52 ?_)
            case c32 => have := LE.out; unfold maxLen; omega
            case c42 => have := LE.out; omega
            case c52 => have k := PU.out.2.2.2.2.2.size; first | exact k | simpa using k
            intro v' w5 hown5 hgrow _
            have UF := Lib.hid (show HIn w base hs9 (some ad) n c ax cx bs p2 v' (ut ++ [x]) w5 from ⟨PU.out.1.keep hgrow (fun e => own_ne PU.out.2.2.2.2.1 PU.out.1 (by decide) e.symm), PU.out.2.1.keep hgrow (fun e => own_ne PU.out.2.2.2.2.1 PU.out.2.1 (by decide) e.symm), PU.out.2.2.1.keep hgrow (fun e => own_ne PU.out.2.2.2.2.1 PU.out.2.2.1 (by decide) e.symm), PU.out.2.2.2.1.kept hgrow (own_two PU.out.2.2.2.1 PU.out.2.2.2.2.1 (by decide)), (by unfold UL; simpa using hown5), gb_row PU.out.2.2.2.2.2 hgrow PU.out.2.2.2.2.1⟩)
            clear hown5 hgrow PU
            go_wp2
            go_roundw
            case rel => exact ⟨k + 1, by omega, by go_num, by rw [NT2.out, ← HP2.out]; exact UF.out⟩
            case measure => simp [intOf]; omega
        · have hke : k = n := by omega
          have EU := Lib.hid (show us.take k = us from List.take_of_length_le (by rw [HLEN.out, hke]; exact Nat.le_refl _))
          have EW := Lib.hid (show (wsL L).take k = wsL L from List.take_of_length_le (by rw [HWL.out, hke]; exact Nat.le_refl _))
          rw [EW.out] at P4
          obtain ⟨ut, hut⟩ : ∃ q, q = us.take k := ⟨_, rfl⟩
          rw [← hut] at P4 hul EU ⊢
          obtain ⟨p2, hp2⟩ : ∃ q, q = pos + sumL (wsL L) := ⟨_, rfl⟩
          rw [← hp2] at P4
          have HP2 := Lib.hid hp2
          have HUL := Lib.hid hul
          clear hut hp2 hul
          have b1 := P4.out.1.cell 1
          have c0 := P4.out.2.1.cell 0
          have c1 := P4.out.2.1.cell 1
          have f0 := P4.out.2.2.1.free 0
          have f1 := P4.out.2.2.1.free 1
          have d0 := P4.out.2.2.1.cell 0
          have d1 := P4.out.2.2.1.cell 1
          simp at b1 c0 c1 d0 d1
          subst hke
          go_wp2
          have N3 := (P4.out.2.2.1.set 0 (.slice ax bs.length cx)).set 1 (.int .i64 p2)
          have e0 := N3.cell 0
          have e1 := N3.cell 1
          simp at e0 e1
          refine bodyPost_ret (v := .tuple #[.agg #[.slice ax bs.length cx, .int .i64 p2], .slice au ut.length cu, .int .i64 0]) (by simp [results, Try.results21, go_sem, e0, e1]) rfl ?_
          rw [← HP2.out, ← EU.out]
          exact ⟨_, rfl, gb_set2 P4.out.2.2.2.2.2 (by omega), own_keepS (own_keepS P4.out.2.2.2.2.1 (gb_set _ _ _ _) P4.out.2.2.1 (by decide)) (gb_set _ _ _ _) (P4.out.2.2.1.set 0 _) (by decide)⟩
  · have d1 : (q == 0) = false := by simp [q0]
    have d2 : (q != 0) = true := by simp [q0]
    rw [if_pos q0] at HQ
    have E := HQ.out
    simp only [Prod.mk.injEq] at E
    obtain ⟨rfl, rfl, rfl⟩ := E
    clear q0 GL HY BT
    go_enter Try.func21, Try.ntmps21
    go_wp2_with fail
    refine HC0.out.mono ?_
    rintro e w2 ⟨rfl, g2⟩
    have P4 := Lib.hid (P0.out.step g2)
    clear g2 P0
    have c0 := P4.out.2.1.cell 0
    have c1 := P4.out.2.1.cell 1
    have f0 := P4.out.2.2.1.free 0
    have f1 := P4.out.2.2.1.free 1
    have d3 := P4.out.2.2.1.cell 0
    have d4 := P4.out.2.2.1.cell 1
    simp at c0 c1 d3 d4
    go_wp2
    have N3 := (P4.out.2.2.1.set 0 (.slice ax bs.length cx)).set 1 (.int .i64 pos)
    have e0 := N3.cell 0
    have e1 := N3.cell 1
    simp at e0 e1
    refine bodyPost_ret (v := .tuple #[.agg #[.slice ax bs.length cx, .int .i64 pos], .slice none 0 0, .int .i64 q]) (by simp [results, Try.results21, go_sem, e0, e1]) rfl ⟨_, rfl, gb_set2 P4.out.2.2.2.2.2 (by omega), World.ownsRow_nil _ _ _ _⟩
end Go.Proofs.Ytgknooblnpmloaa
