/- Header: the walk of the reference's Write; no condition but sizes. -/
import Derived.Test.YtgknooblnpmloaaHdL
namespace Go.Proofs.Ytgknooblnpmloaa
open Go.RowKit
set_option linter.unusedVariables false

/-- What the reference's Write holds: its header, its writer, its result, the writer so far, the bits of both. -/
def WIn (w : World) (base : Nat) (hs : ByteArray) (a : Option Addr) (n c : Nat) (aw : Option Addr) (cw : Nat) (B : List Bool) (xb : Nat) (am : Option Addr) (cm : Nat) (M : List Bool) (w' : World) : Prop :=
  IsB w' w.heap.size 24 #[.string hs, .slice a n c] ∧ IsB w' (w.heap.size + 1) 57 #[.slice aw B.length cw] ∧ IsB w' (w.heap.size + 2) 57 #[.slice none 0 0] ∧
  IsB w' xb 57 #[.slice am M.length cm] ∧ BRow w' base (.slice aw B.length cw) B ∧ BRow w' base (.slice am M.length cm) M ∧ w.grownBy w' none
theorem WIn.step {w w1 w2 : World} {base : Nat} {hs : ByteArray} {a : Option Addr} {n c : Nat} {aw : Option Addr} {cw : Nat} {B : List Bool} {xb : Nat} {am : Option Addr} {cm : Nat} {M : List Bool} (h : WIn w base hs a n c aw cw B xb am cm M w1) (k : w1.grownBy w2 none) : WIn w base hs a n c aw cw B xb am cm M w2 :=
  ⟨h.1.keep0 k, h.2.1.keep0 k, h.2.2.1.keep0 k, h.2.2.2.1.keep0 k, own_keep0 h.2.2.2.2.1 k, own_keep0 h.2.2.2.2.2.1 k, gb_trans h.2.2.2.2.2.2 k⟩
theorem win_new (w : World) (base : Nat) (hs : ByteArray) (a : Option Addr) (n c : Nat) (aw : Option Addr) (cw : Nat) (B : List Bool) (h : BRow w base (.slice aw B.length cw) B) :
    WIn w base hs a n c aw cw B (w.heap.size + 1) aw cw B (((w.alloc (.cells #[.string hs, .slice a n c] 24)).alloc (.cells #[.slice aw B.length cw] 57)).alloc (.cells #[.slice none 0 0] 57)) := by
  have b1 := IsB.new w 24 #[.string hs, .slice a n c]
  have b2 := IsB.new (w.alloc (.cells #[.string hs, .slice a n c] 24)) 57 #[.slice aw B.length cw]
  have b3 := IsB.new ((w.alloc (.cells #[.string hs, .slice a n c] 24)).alloc (.cells #[.slice aw B.length cw] 57)) 57 #[.slice none 0 0]
  rw [show (w.alloc (.cells #[.string hs, .slice a n c] 24)).heap.size = w.heap.size + 1 by simp] at b2
  rw [show ((w.alloc (.cells #[.string hs, .slice a n c] 24)).alloc (.cells #[.slice aw B.length cw] 57)).heap.size = w.heap.size + 2 by simp] at b3
  have g : w.grownBy (((w.alloc (.cells #[.string hs, .slice a n c] 24)).alloc (.cells #[.slice aw B.length cw] 57)).alloc (.cells #[.slice none 0 0] 57)) none := gb_trans (gb_trans (gb_alloc _ _ _) (gb_alloc _ _ _)) (gb_alloc _ _ _)
  exact ⟨(b1.alloc _).alloc _, b2.alloc _, b3, b2.alloc _, own_keep0 h g, own_keep0 h g, g⟩
theorem w5_step {w w1 w2 : World} {base : Nat} {hs : ByteArray} {a : Option Addr} {n c : Nat} {aw : Option Addr} {cw : Nat} {B : List Bool} {xb : Nat} {am : Option Addr} {cm : Nat} {M : List Bool} {q1 q2 q3 q4 : Addr} {x y z t : Value}
    (h : w1.cell? q1 = some x ∧ w1.cell? q2 = some y ∧ w1.cell? q3 = some z ∧ w1.cell? q4 = some t ∧ WIn w base hs a n c aw cw B xb am cm M w1) (k : w1.grownBy w2 none) :
    w2.cell? q1 = some x ∧ w2.cell? q2 = some y ∧ w2.cell? q3 = some z ∧ w2.cell? q4 = some t ∧ WIn w base hs a n c aw cw B xb am cm M w2 :=
  ⟨cell_grown h.1 k, cell_grown h.2.1 k, cell_grown h.2.2.1 k, cell_grown h.2.2.2.1 k, h.2.2.2.2.step k⟩
theorem w5_row {w w1 : World} {base : Nat} {hs : ByteArray} {a : Option Addr} {n c : Nat} {aw : Option Addr} {cw : Nat} {B : List Bool} {xb : Nat} {am : Option Addr} {cm : Nat} {M : List Bool} {p1 p2 p3 p4 : Prop} (h : p1 ∧ p2 ∧ p3 ∧ p4 ∧ WIn w base hs a n c aw cw B xb am cm M w1) : BRow w1 base (.slice am M.length cm) M := h.2.2.2.2.2.2.2.2.2.1
theorem w5_size {w w1 : World} {base : Nat} {hs : ByteArray} {a : Option Addr} {n c : Nat} {aw : Option Addr} {cw : Nat} {B : List Bool} {xb : Nat} {am : Option Addr} {cm : Nat} {M : List Bool} {p1 p2 p3 p4 : Prop} (h : p1 ∧ p2 ∧ p3 ∧ p4 ∧ WIn w base hs a n c aw cw B xb am cm M w1) (hb : base ≤ w.heap.size) : base ≤ w1.heap.size := Nat.le_trans hb h.2.2.2.2.2.2.2.2.2.2.size
theorem alloc_one2 {w w2 : World} {x : Value} {t : TypeId} (g : (w.drew.alloc (.cells #[x] t)).grownBy w2 none) : w2.cell? ⟨w.heap.size, 0, none⟩ = some x ∧ w2.frozen? ⟨w.heap.size, 0, none⟩ = false ∧ IsB w2 w.heap.size t #[x] := by
  have h : IsB w2 w.heap.size t #[x] := (IsB.new w.drew t #[x]).keep0 g
  exact ⟨h.cell 0, h.free 0, h⟩
theorem w5_fin1 {w w1 : World} {base : Nat} {L1 : List Bool} {v : Value} {o : Obj} {P : World → Prop} (b : BRow w1 base v L1) (h : P (w1.alloc o)) : BRow (w1.alloc o) base v L1 := own_keep0 b (gb_alloc _ _ _)
theorem w5_fin2 {w1 : World} {base g : Nat} {L1 : List Bool} {v u : Value} {cs : Array Value} (b : BRow w1 base v L1) (yb : IsB w1 g 57 cs) : BRow (w1.setCell ⟨g, 0, none⟩ u) base v L1 := own_keepS b (gb_set _ _ _ _) yb (by decide)
theorem wrH_run {hs : ByteArray} {L : List Fld} {vals : List Int} {B : List Bool} (h : chkH hs L = 0) (e : vals.length = L.length) (er : Int) (B1 : List Bool) (hq : pkRun B (vals.zip (wsL L)) = (er, B1)) : wrH hs L vals B = if er = 0 then (0, B1) else (er, B) := by
  have k := pkRun_app B (vals.zip (wsL L)) []
  rw [List.append_nil, hq] at k
  unfold wrH
  rw [if_neg (show ¬ ¬ chkH hs L = 0 from fun x => x h), if_neg (show ¬ ¬ vals.length = L.length from fun x => x e), ← k.1]
  by_cases e2 : er = 0
  · rw [if_pos e2, if_pos e2, ← k.2 (by rw [← k.1]; exact e2)]
  · rw [if_neg e2, if_neg e2]
set_option maxRecDepth 100000 in
set_option maxHeartbeats 8000000 in
theorem rwriteH_any (w : World) (hs9 : ByteArray) (a : Option Addr) (n c : Nat) (L : List Fld) (h : HdOk w hs9 a n c L) (base : Nat) (aw : Option Addr) (cw : Nat) (B : List Bool) (hbase : base ≤ w.heap.size) (hR : BRow w base (.slice aw B.length cw) B)
    (a2 : Option Addr) (len2 cap2 : Nat) (vals : List Int) (hv : SlR w a2 len2 cap2 (vals.map (Value.int .u32))) (hv2 : ∀ x ∈ vals, 0 ≤ x ∧ x < 4294967296) (hB : B.length ≤ 10000) (er : Int) (B2 : List Bool) (hq : wrH hs9 L vals B = (er, B2)) :
    Calls Try.prog 30 #[.agg #[.string hs9, .slice a n c], .slice a2 len2 cap2, .agg #[.slice aw B.length cw]] w (RWr er base B2 w) := by
  have hvl : vals.length = len2 := by simpa using hv.1
  subst hvl
  have HH := Lib.hid h
  have HV := Lib.hid hv
  have HV2 := Lib.hid hv2
  have HB := Lib.hid hB
  have HQ := Lib.hid hq
  have P0 := Lib.hid (win_new w base hs9 a n c aw cw B hR)
  have HC0 := Lib.hid (rcheck_any _ hs9 a n c L (h.sf.keep0 P0.out.2.2.2.2.2.2) h.few h.nm h.hn)
  have CK := Lib.hid (chk_ok hs9 L)
  have RUN := Lib.hid (wrH_run (hs := hs9) (L := L) (vals := vals) (B := B))
  have HE := Lib.hid (show wrH hs9 L vals B = if ¬ chkH hs9 L = 0 then (chkH hs9 L, B) else if ¬ vals.length = L.length then (2, B) else if (pkRun [] (vals.zip (wsL L))).1 = 0 then (0, B ++ (pkRun [] (vals.zip (wsL L))).2) else ((pkRun [] (vals.zip (wsL L))).1, B) from rfl)
  have hll := h.sf.len
  have HLL := Lib.hid hll
  clear h hv hv2 hB hq hR
  rw [HQ.out, hll] at HE
  obtain ⟨q, hqq⟩ : ∃ q, q = chkH hs9 L := ⟨_, rfl⟩
  rw [← hqq] at HC0 HE CK RUN
  clear hqq hll
  by_cases q0 : q = 0
  · have CKt := Lib.hid (CK.out q0)
    have RUNt := Lib.hid (RUN.out q0)
    rw [if_neg (show ¬ ¬ q = 0 from fun x => x q0)] at HE
    clear CK RUN
    subst q0
    go_enter Try.func30, Try.ntmps30
    go_wp2_with fail
    refine HC0.out.mono ?_
    rintro e w2 ⟨rfl, g2⟩
    have P4 := Lib.hid (P0.out.step g2)
    have b0 := P4.out.1.cell 0
    have b1 := P4.out.1.cell 1
    have c0 := P4.out.2.1.cell 0
    have f0 := P4.out.2.2.1.free 0
    have d0 := P4.out.2.2.1.cell 0
    simp at b0 b1 c0 d0
    clear g2 P0 HC0
    by_cases e1 : vals.length = n
    · have hne : ((vals.length : Int) != n) = false := by rw [bne_eq_false_iff_eq]; omega
      rw [if_neg (show ¬ ¬ vals.length = n from fun x => x e1)] at HE
      obtain ⟨er1, B1, hpk⟩ : ∃ x y, pkRun B (vals.zip (wsL L)) = (x, y) := ⟨_, _, rfl⟩
      have HPK := Lib.hid hpk
      have HQ2 := Lib.hid (show (er, B2) = if er1 = 0 then (0, B1) else (er1, B) by rw [← HQ.out]; exact RUNt.out (by rw [HLL.out]; exact e1) er1 B1 hpk)
      have hn12 : n ≤ 12 := by have := CKt.out.2.1; rw [HLL.out] at this; exact this
      have hwl : (wsL L).length = n := by rw [wsL_len, HLL.out]
      have HWL := Lib.hid hwl
      have E1 := Lib.hid e1
      clear hpk hwl RUNt HE e1
      go_wp2_with fail
      have N1 := Lib.hid (show WIn w base hs9 a n c aw cw B w2.heap.size aw cw B (w2.alloc (.cells #[.slice aw B.length cw] 57)) from ⟨P4.out.1.alloc _, P4.out.2.1.alloc _, P4.out.2.2.1.alloc _, IsB.new _ _ _, own_keep0 P4.out.2.2.2.2.1 (gb_alloc _ _ _), own_keep0 P4.out.2.2.2.2.1 (gb_alloc _ _ _), gb_trans P4.out.2.2.2.2.2.2 (gb_alloc _ _ _)⟩)
      have XB := Lib.hid (show w.heap.size + 2 < w2.heap.size from P4.out.2.2.1.lt)
      generalize w2.heap.size = xb at *
      clear P4 b0 b1 c0 d0 f0
      go_loopw [10] (fun i wr => ∃ (k : Nat) (M : List Bool) (am : Option Addr) (cm : Nat), k ≤ n ∧ i = .int .i64 k ∧ WIn w base hs9 a n c aw cw B xb am cm M wr ∧ pkRun M ((vals.zip (wsL L)).drop k) = (er1, B1) ∧ M.length ≤ B.length + 32 * k) (fun i _ => n - (intOf i).toNat)
      case atStart => exact ⟨0, B, aw, cw, Nat.zero_le _, rfl, N1.out, HPK.out, by omega⟩
      case round =>
        obtain ⟨k, M, am, cm, hk, rfl, hp, hq1, hl1⟩ := hrel
        clear N1
        have P := Lib.hid hp
        have HQ1 := Lib.hid hq1
        have HLEN := Lib.hid (show M.length ≤ 50000 by have := HB.out; omega)
        have HL1 := Lib.hid hl1
        clear hp hq1 hl1
        by_cases hlt : k < n
        · cases a2 with
          | none => exact absurd (HV.out.2.1 rfl).1 (by have := E1.out; omega)
          | some ad =>
          have sf := HH.out.sf.keep0 P.out.2.2.2.2.2.2
          obtain ⟨ad2, rfl⟩ := sf_some sf (by omega)
          obtain ⟨c0, c1⟩ := sf.cells ad2 rfl k hlt
          have hkv : (k : Int) < vals.length := by have := E1.out; omega
          have i1 : (k : Int) < n := by omega
          have i9 : (0 : Int) ≤ (k : Int) := by omega
          have hl : k < L.length := by rw [HLL.out]; exact hlt
          have hc1 := (HV.out.keep0 P.out.2.2.2.2.2.2).cellAt k (by have := E1.out; omega)
          have hx := HV2.out (vals.getD k 0) (by rw [List.getD_eq_getElem?_getD, List.getElem?_eq_getElem (by have := E1.out; omega)]; exact List.getElem_mem _)
          have hz := HQ1.out
          rw [zip_drop vals (wsL L) k (by have := E1.out; omega) (by rw [HWL.out]; exact hlt), wsL_get L k hl] at hz
          obtain ⟨p, hp⟩ : ∃ p, p = L.getD k fz := ⟨_, rfl⟩
          rw [← hp] at c0 c1 hz
          obtain ⟨v, nk⟩ := p
          generalize vals.getD k 0 = x at *
          obtain ⟨e1, L1, hs⟩ : ∃ e1 L1, wrStep M x nk = (e1, L1) := ⟨_, _, rfl⟩
          have HS := Lib.hid hs
          have HX := Lib.hid hx
          have hlen1 := pkRun_len M x nk
          rw [hs] at hlen1
          rw [pkRun, hs] at hz
          have HZ := Lib.hid hz
          have LE1 := Lib.hid hlen1
          have b1 := P.out.1.cell 1
          simp at b1
          have SB := Lib.hid (show wr.cell? ⟨xb, 0, none⟩ = some (.slice am M.length cm) ∧ wr.cell? (ad.add k) = some (.int .u32 x) ∧ wr.cell? ⟨w.heap.size, 1, none⟩ = some (.slice (some ad2) n c) ∧ wr.cell? ⟨(ad2.add (k * 2)).block, (ad2.add (k * 2)).off + 1, none⟩ = some (.int .i64 nk) ∧ WIn w base hs9 (some ad2) n c aw cw B xb am cm M wr from ⟨P.out.2.2.2.1.cell 0, hc1, b1, c1, P.out⟩)
          clear hz hs hx hlen1 hc1 c0 c1 P HQ1 hp hl sf
          go_wp2_with fail
          have hb0 := SB.out
          go_region_held3 (fun w' => w'.cell? ⟨xb, 0, none⟩ = some (.slice am M.length cm) ∧ w'.cell? (ad.add k) = some (.int .u32 x) ∧ w'.cell? ⟨w.heap.size, 1, none⟩ = some (.slice (some ad2) n c) ∧ w'.cell? ⟨(ad2.add (k * 2)).block, (ad2.add (k * 2)).off + 1, none⟩ = some (.int .i64 nk) ∧ WIn w base hs9 (some ad2) n c aw cw B xb am cm M w')
            (first | exact w5_step (by assumption) (by assumption) | exact w5_step (by assumption) (gb_alloc _ _ _) | exact w5_step hb0 (gb_drew _ _) | exact w5_step hb0 (gb_trans (gb_drew _ _) (gb_trans (by assumption) (gb_alloc _ _ _))) | exact w5_step hb0 (gb_trans (gb_drew _ _) (gb_set1 (gb_trans (gb_alloc _ _ _) (by assumption)) (Nat.le_refl _))) | exact hb0 | assumption)
            (first | (go_at_call 28; refine (rwrite_any _ base am cm M x nk (w5_row (by assumption)) (w5_size (by assumption) hbase) HLEN.out HX.out.1 HX.out.2 e1 L1 HS.out).mono ?_; rintro e w' ⟨v', rfl, g, o⟩; obtain ⟨a1, c1, rfl⟩ := own_shape o; (first | (have yb := alloc_one2 g; obtain ⟨y0, z0, yb⟩ := yb) | skip)))
          all_goals
            rename_i hs
            first | (have OF := w5_fin2 o yb (u := .slice a1 L1.length c1)) | (have OF := own_keep0 o (gb_alloc _ (.cells #[.slice a1 L1.length c1] 57) none))
            have PF := Lib.hid hs.2.2.2.2
            have OG := Lib.hid OF
            have c0 := hs.1
            have f0 := PF.out.2.2.2.1.free 0
            have f1 := PF.out.2.2.1.free 0
            have c2 := PF.out.2.1.cell 0
            have d1 := PF.out.2.2.1.cell 0
            simp at c2 d1
            clear hs OF hb0 SB o g b1
            by_cases he : e1 = 0
            · subst he
              have HZ3 := Lib.hid (show pkRun L1 ((vals.zip (wsL L)).drop (k + 1)) = (er1, B1) by have := HZ.out; rwa [if_pos rfl] at this)
              go_wp2
              go_roundw
              case rel => exact ⟨k + 1, L1, a1, c1, by omega, by go_num, ⟨PF.out.1.keepS (gb_set _ _ _ _) PF.out.2.2.2.1 (by decide), PF.out.2.1.set_far (by have := XB.out; omega) 0 _, PF.out.2.2.1.set_far (by have := XB.out; omega) 0 _, PF.out.2.2.2.1.set 0 _, own_keepS PF.out.2.2.2.2.1 (gb_set _ _ _ _) PF.out.2.2.2.1 (by decide), own_keepS OG.out (gb_set _ _ _ _) PF.out.2.2.2.1 (by decide), gb_set1 PF.out.2.2.2.2.2.2 (by have := XB.out; omega)⟩, HZ3.out, by have := LE1.out; have := HL1.out; omega⟩
              case measure => simp [intOf]; omega
            · have HZ3 := Lib.hid (show e1 = er1 ∧ L1 = B1 by have := HZ.out; rw [if_neg he] at this; simpa using this)
              have hne2 : (e1 != 0) = true := by simpa using he
              have HQ3 := Lib.hid (show er = e1 ∧ B2 = B by have := HQ2.out; rw [← HZ3.out.1, if_neg he] at this; simpa using this)
              have N3 := PF.out.2.2.1.set 0 (.slice aw B.length cw)
              have g0 := N3.cell 0
              simp at g0
              have FIN := Lib.hid (show RWr er base B2 w (.returned (.tuple #[.agg #[.slice aw B.length cw], .int .i64 e1])) _ from ⟨_, by rw [HQ3.out.1], gb_set1 (g := w.heap.size + 2) (i := 0) (u := .slice aw B.length cw) PF.out.2.2.2.2.2.2 (by omega), by rw [HQ3.out.2]; exact own_keepS PF.out.2.2.2.2.1 (gb_set _ _ _ _) PF.out.2.2.1 (by decide)⟩)
              clear he
              go_wp2
              refine bodyPost_ret (v := .tuple #[.agg #[.slice aw B.length cw], .int .i64 e1]) (by simp [results, Try.results30, go_sem, g0]) rfl FIN.out
        · have hkk : ¬ (k : Int) < vals.length := by have := E1.out; omega
          have hke : k = n := by omega
          have HZ3 := Lib.hid (show 0 = er1 ∧ M = B1 by have := HQ1.out; rw [zip_end vals (wsL L) k (by rw [HWL.out]; omega)] at this; simpa [pkRun] using this)
          have HQ3 := Lib.hid (show er = 0 ∧ B2 = M by have := HQ2.out; rw [← HZ3.out.1, if_pos rfl, ← HZ3.out.2] at this; simpa using this)
          have c0 := P.out.2.2.2.1.cell 0
          have f1 := P.out.2.2.1.free 0
          have d1 := P.out.2.2.1.cell 0
          simp at c0 d1
          have N3 := P.out.2.2.1.set 0 (.slice am M.length cm)
          have g0 := N3.cell 0
          simp at g0
          have FIN := Lib.hid (show RWr er base B2 w (.returned (.tuple #[.agg #[.slice am M.length cm], .int .i64 0])) _ from ⟨_, by rw [HQ3.out.1], gb_set1 (g := w.heap.size + 2) (i := 0) (u := .slice am M.length cm) P.out.2.2.2.2.2.2 (by omega), by rw [HQ3.out.2]; exact own_keepS P.out.2.2.2.2.2.1 (gb_set _ _ _ _) P.out.2.2.1 (by decide)⟩)
          clear HQ3 HZ3 HQ2
          go_wp2
          refine bodyPost_ret (v := .tuple #[.agg #[.slice am M.length cm], .int .i64 0]) (by simp [results, Try.results30, go_sem, g0]) rfl FIN.out
    · have hne : ((vals.length : Int) != n) = true := by rw [bne_iff_ne]; omega
      rw [if_pos e1] at HE
      have E := HE.out
      simp only [Prod.mk.injEq] at E
      obtain ⟨rfl, rfl⟩ := E
      have N3 := P4.out.2.2.1.set 0 (.slice aw B2.length cw)
      have g0 := N3.cell 0
      simp at g0
      have FIN := Lib.hid (show RWr 2 base B2 w (.returned (.tuple #[.agg #[.slice aw B2.length cw], .int .i64 2])) _ from ⟨_, rfl, gb_set1 (g := w.heap.size + 2) (i := 0) (u := .slice aw B2.length cw) P4.out.2.2.2.2.2.2 (by omega), own_keepS P4.out.2.2.2.2.1 (gb_set _ _ _ _) P4.out.2.2.1 (by decide)⟩)
      clear e1 HQ HE RUNt
      go_wp2
      refine bodyPost_ret (v := .tuple #[.agg #[.slice aw B2.length cw], .int .i64 2]) (by simp [results, Try.results30, go_sem, g0]) rfl FIN.out
  · have d1 : (q == 0) = false := by simp [q0]
    have d2 : (q != 0) = true := by simp [q0]
    rw [if_pos q0] at HE
    have E := HE.out
    simp only [Prod.mk.injEq] at E
    obtain ⟨rfl, rfl⟩ := E
    clear q0 RUN CK HE HQ
    go_enter Try.func30, Try.ntmps30
    go_wp2_with fail
    refine HC0.out.mono ?_
    rintro e w2 ⟨rfl, g2⟩
    have P4 := Lib.hid (P0.out.step g2)
    have c0 := P4.out.2.1.cell 0
    have f0 := P4.out.2.2.1.free 0
    have d3 := P4.out.2.2.1.cell 0
    simp at c0 d3
    clear g2 P0
    have N3 := P4.out.2.2.1.set 0 (.slice aw B2.length cw)
    have g0 := N3.cell 0
    simp at g0
    have FIN := Lib.hid (show RWr er base B2 w (.returned (.tuple #[.agg #[.slice aw B2.length cw], .int .i64 er])) _ from ⟨_, rfl, gb_set1 (g := w.heap.size + 2) (i := 0) (u := .slice aw B2.length cw) P4.out.2.2.2.2.2.2 (by omega), own_keepS P4.out.2.2.2.2.1 (gb_set _ _ _ _) P4.out.2.2.1 (by decide)⟩)
    go_wp2
    refine bodyPost_ret (v := .tuple #[.agg #[.slice aw B2.length cw], .int .i64 er]) (by simp [results, Try.results30, go_sem, g0]) rfl FIN.out
end Go.Proofs.Ytgknooblnpmloaa
