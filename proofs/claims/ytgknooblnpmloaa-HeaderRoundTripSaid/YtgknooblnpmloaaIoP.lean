/- The walks of bitio's Pack; no condition but sizes: at most 100 numbers. -/
import Derived.Test.YtgknooblnpmloaaIoZ
namespace Go.Proofs.Ytgknooblnpmloaa
open Go.RowKit
set_option linter.unusedVariables false

theorem SlR.below {w w2 : World} {a : Option Addr} {n c : Nat} {xs : List Value} (h : SlR w a n c xs) (k : Below w.heap.size w w2) : SlR w2 a n c xs :=
  ⟨h.1, h.2.1, fun ad e j u hu => by
    have hc := h.2.2 ad e j u hu
    have hlt := World.block_lt_of_cell? w _ hc
    exact (k.cell (p := ad.add j) hlt).trans hc⟩
theorem SlR.cellAt {w : World} {k : IntKind} {ad : Addr} {n c : Nat} {zs : List Int} (h : SlR w (some ad) n c (zs.map (Value.int k))) (j : Nat) (hj : j < zs.length) : w.cell? (ad.add j) = some (.int k (zs.getD j 0)) := by
  refine h.2.2 ad rfl j _ ?_
  simp [hj]

/-- One number written: the error code and the bits held. -/
def wrStep (L : List Bool) (v n : Int) : Int × List Bool := if okW n then if fitsB v n then (0, L ++ bitsOf v n.toNat) else (9, L) else (10, L)
theorem wr_any (w : World) (base r s : Nat) (V : Value) (L : List Bool) (v n : Int) (h : Wtr w base r s V L) (hbase : base ≤ w.heap.size) (hn : L.length ≤ 50000) (k0 : 0 ≤ v) (k1 : v < 4294967296) (er : Int) (L2 : List Bool) (hq : wrStep L v n = (er, L2)) :
    Calls Try.prog 27 #[.pointer (some ⟨r, 0, none⟩), .int .u32 v, .int .i64 n] w (WrQ er w base r s L2) := by
  unfold wrStep at hq
  by_cases hv : okW n = true
  · rw [if_pos hv] at hq
    by_cases hf : fitsB v n = true
    · rw [if_pos hf] at hq
      simp only [Prod.mk.injEq] at hq
      obtain ⟨rfl, rfl⟩ := hq
      have hv2 : 1 ≤ n ∧ n ≤ 32 := of_decide_eq_true hv
      exact wr_ok w base r s V L v n h hbase hn hv2.1 hv2.2 hf k0 k1
    · rw [if_neg hf] at hq
      simp only [Prod.mk.injEq] at hq
      obtain ⟨rfl, rfl⟩ := hq
      exact wr_range w base r s V L v n h hv (by simpa using hf)
  · rw [if_neg hv] at hq
    simp only [Prod.mk.injEq] at hq
    obtain ⟨rfl, rfl⟩ := hq
    exact wr_width w base r s V L v n h (by simpa using hv)

/-- The numbers written one after the other, up to the first error. -/
def pkRun : List Bool → List (Int × Int) → Int × List Bool
  | L, [] => (0, L)
  | L, (v, n) :: t => if (wrStep L v n).1 = 0 then pkRun (wrStep L v n).2 t else wrStep L v n

set_option maxRecDepth 100000 in
theorem closure_pack (w : World) (base r s bw bv : Nat) (V : Value) (L : List Bool) (ad : Addr) (len cap i : Nat) (x n : Int) (h : Wtr w base r s V L) (hbase : base ≤ w.heap.size) (hn : L.length ≤ 50000)
    (hw : IsB w bw 53 #[.pointer (some ⟨r, 0, none⟩)]) (hv : IsB w bv 44 #[.slice (some ad) len cap]) (hc : w.cell? (ad.add i) = some (.int .u32 x)) (hi : i < len) (hl : len ≤ 60000) (k0 : 0 ≤ x) (k1 : x < 4294967296)
    (er : Int) (L2 : List Bool) (hq : wrStep L x n = (er, L2)) :
    Calls Try.prog 58 #[.int .i64 i, .int .i64 n, .pointer (some ⟨bw, 0, none⟩), .pointer (some ⟨bv, 0, none⟩)] w (WrQ er w base r s L2) := by
  have c0 : w.cell? ⟨bw, 0, none⟩ = some (.pointer (some ⟨r, 0, none⟩)) := hw.cell 0
  have c1 : w.cell? ⟨bv, 0, none⟩ = some (.slice (some ad) len cap) := hv.cell 0
  have i1 : (i : Int) < len := by omega
  have HW := Lib.hid (wr_any w.drew base r s V L x n (h.keep0 (gb_drew _ none)) hbase hn k0 k1 er L2 hq)
  clear hq h hw hv
  go_enter Try.func58, Try.ntmps58
  go_wp2
  go_still_tail 6, (by kernel_rfl)
  change wpList _ _ _ _ _ w.drew
  go_wp2_with fail
  refine HW.out.mono ?_
  rintro e w2 ⟨rfl, q1, V3, q2⟩
  have Q1 := Lib.hid q1
  have Q2 := Lib.hid q2
  clear q1 q2
  go_wp2
  go_ret
  exact ⟨rfl, (GT.of0 (gb_drew w none)).trans Q1.out, V3, Q2.out⟩
theorem pkRun_len (L : List Bool) (v n : Int) : (wrStep L v n).2.length ≤ L.length + 32 := by
  unfold wrStep
  split
  · rename_i h
    have h2 : 1 ≤ n ∧ n ≤ 32 := of_decide_eq_true h
    split
    · simp only [List.length_append, bitsOf_len]; omega
    · show L.length ≤ L.length + 32; omega
  · show L.length ≤ L.length + 32; omega
theorem zip_drop (vals ns : List Int) (k : Nat) (h1 : k < vals.length) (h2 : k < ns.length) : (vals.zip ns).drop k = (vals.getD k 0, ns.getD k 0) :: (vals.zip ns).drop (k + 1) := by
  rw [List.drop_eq_getElem_cons (by simp; omega)]
  simp [h1, h2]
theorem zip_end (vals ns : List Int) (k : Nat) (h2 : ns.length ≤ k) : (vals.zip ns).drop k = [] := by
  apply List.drop_eq_nil_of_le
  simp; omega

set_option maxHeartbeats 1000000 in
theorem each_pack (w0 w : World) (base r s bw bv : Nat) (V : Value) (a a2 : Option Addr) (cap cap2 : Nat) (vals ns : List Int) (er : Int) (L2 : List Bool) (h : Wtr w base r s V []) (hbase : base ≤ w.heap.size)
    (hw : IsB w bw 53 #[.pointer (some ⟨r, 0, none⟩)]) (hv : IsB w bv 44 #[.slice a vals.length cap]) (h0 : Below w0.heap.size w0 w) (hb0 : w0.heap.size ≤ base)
    (hvals : SlR w0 a vals.length cap (vals.map (Value.int .u32))) (hns : SlR w0 a2 ns.length cap2 (ns.map (Value.int .i64))) (hlen : vals.length = ns.length) (hn : ns.length ≤ 1000) (hr : ∀ x ∈ vals, 0 ≤ x ∧ x < 4294967296)
    (hq : pkRun [] (vals.zip ns) = (er, L2)) :
    Calls Try.prog 59 #[.func (.func 58) #[] #[.pointer (some ⟨bw, 0, none⟩), .pointer (some ⟨bv, 0, none⟩)], .slice a2 ns.length cap2] w (WrQ er w base r s L2) := by
  have HL := Lib.hid hlen
  have HQ := Lib.hid hq
  clear hlen hq
  go_enter Try.func59, Try.ntmps59
  go_wp2
  go_loopw [10] (fun i wr => ∃ (k : Nat) (V' : Value) (L' : List Bool), k ≤ ns.length ∧ i = .int .i64 k ∧ Wtr wr base r s V' L' ∧ pkRun L' ((vals.zip ns).drop k) = (er, L2) ∧ L'.length ≤ 32 * k ∧ GT base w wr) (fun i _ => ns.length - (intOf i).toNat)
  case atStart => exact ⟨0, V, [], Nat.zero_le _, rfl, h, HQ.out, by simp, GT.refl _ _⟩
  case round =>
    obtain ⟨k, V', L', hk, rfl, hw1, hq1, hl1, hg⟩ := hrel
    have HB0 := Lib.hid (show Below w0.heap.size w0 wr from ⟨hg.os.trans h0.os, hg.tape.trans h0.tape, hg.output.trans h0.output, Nat.le_trans h0.size hg.size, fun i hi => (hg.low i (by have := h0.size; omega) (by omega)).trans (h0.block i hi)⟩)
    have HW1 := Lib.hid hw1
    have HQ1 := Lib.hid hq1
    have HG := Lib.hid hg
    clear hw1 hq1 hg
    by_cases hlt : k < ns.length
    · cases a2 with
      | none => exact absurd (hns.2.1 rfl).1 (by omega)
      | some ad2 =>
        cases a with
        | none => exact absurd (hvals.2.1 rfl).1 (by rw [HL.out]; omega)
        | some ad =>
          have hc2 := (hns.below HB0.out).cellAt k (by omega)
          have hc1 := (hvals.below HB0.out).cellAt k (by rw [HL.out]; omega)
          have HC1 := Lib.hid hc1
          clear hc1
          have hx := hr (vals.getD k 0) (by rw [List.getD_eq_getElem?_getD, List.getElem?_eq_getElem (by rw [HL.out]; omega)]; exact List.getElem_mem _)
          have hz := HQ1.out
          rw [zip_drop vals ns k (by rw [HL.out]; omega) hlt] at hz
          have HZ := Lib.hid hz
          clear hz
          generalize ns.getD k 0 = nk at *
          generalize vals.getD k 0 = x at *
          obtain ⟨e1, L1, hs⟩ : ∃ e1 L1, wrStep L' x nk = (e1, L1) := ⟨_, _, rfl⟩
          have HS := Lib.hid hs
          have HX := Lib.hid hx
          have hlen1 := pkRun_len L' x nk
          rw [hs] at hlen1
          have hz := HZ.out
          rw [pkRun, hs] at hz
          have HZ2 := Lib.hid hz
          clear hz hs hx
          have HM := Lib.hid (closure_pack wr base r s bw bv V' L' ad vals.length cap k x nk HW1.out (by have := HG.out.size; omega) (by omega) (HG.out.kind _ _ _ hw (by decide) (by decide)) (HG.out.kind _ _ _ hv (by decide) (by decide)) HC1.out (by rw [HL.out]; omega) (by rw [HL.out]; omega) HX.out.1 HX.out.2 e1 L1 HS.out)
          by_cases he : e1 = 0
          · subst he
            have HZ3 := Lib.hid (show pkRun L1 ((vals.zip ns).drop (k + 1)) = (er, L2) by have := HZ2.out; rwa [if_pos rfl] at this)
            go_wp2_with fail
            refine HM.out.mono ?_
            rintro e w5 ⟨rfl, q1, V5, q2⟩
            have Q1 := Lib.hid q1
            have Q2 := Lib.hid q2
            clear q1 q2
            go_wp2
            go_roundw
            case rel => exact ⟨k + 1, V5, L1, by omega, by go_num, Q2.out, HZ3.out, by omega, HG.out.trans Q1.out⟩
            case measure => simp [intOf]; omega
          · have HZ3 := Lib.hid (show e1 = er ∧ L1 = L2 by have := HZ2.out; rw [if_neg he] at this; simpa using this)
            have hne : (e1 != 0) = true := by simpa using he
            clear he
            go_wp2_with fail
            refine HM.out.mono ?_
            rintro e w5 ⟨rfl, q1, V5, q2⟩
            have Q1 := Lib.hid q1
            have Q2 := Lib.hid q2
            clear q1 q2
            go_wp2
            go_ret
            exact ⟨ret_i HZ3.out.1, HG.out.trans Q1.out, V5, by rw [← HZ3.out.2]; exact Q2.out⟩
    · have HZ3 := Lib.hid (show 0 = er ∧ L' = L2 by have := HQ1.out; rw [zip_end vals ns k (by omega)] at this; simpa [pkRun] using this)
      go_wp2
      go_ret
      exact ⟨ret_i HZ3.out.1, HG.out, V', by rw [← HZ3.out.2]; exact HW1.out⟩

/-- What Pack comes to: the error code and the bytes. -/
def packR (vals ns : List Int) : Int × List Int :=
  if vals.length = ns.length then
    if (pkRun [] (vals.zip ns)).1 = 0 then if (pkRun [] (vals.zip ns)).2.length % 8 = 0 then (0, packB (pkRun [] (vals.zip ns)).2) else (10, []) else ((pkRun [] (vals.zip ns)).1, [])
  else (2, [])
/-- The call returns bytes of its own and an error code. -/
def RetP (er : Int) (bs : List Int) (w : World) (e : Ending) (w' : World) : Prop :=
  ∃ v', e = .returned (.tuple #[v', .int .i64 er]) ∧ Below w.heap.size w w' ∧ w'.ownsRow w.heap.size 5 1 v' bs.length (bs.map (Value.int .u8)) ∧ (bs = [] → v' = .slice none 0 0)
theorem RetP.nil {er : Int} {w w' : World} {v : Value} (h : Below w.heap.size w w') (hv : v = .int .i64 er) : RetP er [] w (.returned (.tuple #[.slice none 0 0, v])) w' := by
  subst hv; exact ⟨_, rfl, h, World.ownsRow_nil _ _ _ _, fun _ => rfl⟩

theorem pack_args (w : World) (a : Option Addr) (len cap : Nat) (vals ns : List Int) (h : SlR w a len cap (vals.map (Value.int .u32))) (a2 : Option Addr) (len2 cap2 : Nat) (h2 : SlR w a2 len2 cap2 (ns.map (Value.int .i64))) (hne : vals.length ≠ ns.length) :
    Calls Try.prog 49 #[.slice a len cap, .slice a2 len2 cap2] w (RetP 2 [] w) := by
  have e1 : vals.length = len := by simpa using h.1
  have e2 : ns.length = len2 := by simpa using h2.1
  subst e1; subst e2
  have hq : ((vals.length : Int) != ns.length) = true := by rw [bne_iff_ne]; omega
  go_enter Try.func49, Try.ntmps49
  go_wp2
  go_ret2
  exact RetP.nil ((Below.refl _ _).alloc (Nat.le_refl _) _) rfl
theorem cell_new (w : World) (x : Value) (t : TypeId) : (w.alloc (.cells #[x] t)).cell? ⟨w.heap.size, 0, none⟩ = some x := by simp [go_sem]
end Go.Proofs.Ytgknooblnpmloaa
