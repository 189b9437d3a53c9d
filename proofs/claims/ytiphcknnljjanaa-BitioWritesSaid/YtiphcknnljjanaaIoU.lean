/- The walks of bitio's Unpack: one number; all numbers; no condition but sizes. -/
import Derived.Test.YtiphcknnljjanaaIoQ
namespace Go.Proofs.Ytiphcknnljjanaa
open Go.RowKit
set_option linter.unusedVariables false

theorem infoU32 : (Try.prog.info? 22).map (fun i => (i.zero, i.size, i.bytes)) = some (some (.int .u32 0), 1, 4) := by kernel_rfl

/-- One number read: the error code, the number, the position behind it. -/
def rdStep (bs : List Int) (pos : Nat) (n : Int) : Int × Int × Nat :=
  if okW n then if (pos : Int) + n ≤ 8 * bs.length then (0, accB bs pos n.toNat, pos + n.toNat) else (3, 0, pos) else (10, 0, pos)
theorem rdStep_pos (bs : List Int) (pos : Nat) (n : Int) (h : pos ≤ 8 * bs.length) : (rdStep bs pos n).2.2 ≤ 8 * bs.length := by
  unfold rdStep
  split
  · rename_i h1
    have h2 : 1 ≤ n ∧ n ≤ 32 := of_decide_eq_true h1
    split
    · show pos + n.toNat ≤ 8 * bs.length; omega
    · exact h
  · exact h
theorem reads_any (w : World) (base r s : Nat) (V : Value) (bs : List Int) (pos : Nat) (n : Int) (h : Rdr w base r s V bs pos) (hb : ∀ b ∈ bs, 0 ≤ b ∧ b ≤ 255) (hn : bs.length ≤ 60000) (hp : pos ≤ 8 * bs.length)
    (er v : Int) (pos2 : Nat) (hq : rdStep bs pos n = (er, v, pos2)) :
    Calls Try.prog 44 #[.pointer (some ⟨r, 0, none⟩), .int .i64 n] w (RetQ (.tuple #[.int .u32 v, .int .i64 er]) w (some s) fun w' => Rdr w' base r s V bs pos2) := by
  unfold rdStep at hq
  by_cases hv : okW n = true
  · rw [if_pos hv] at hq
    have h2 : 1 ≤ n ∧ n ≤ 32 := of_decide_eq_true hv
    by_cases hf : (pos : Int) + n ≤ 8 * bs.length
    · rw [if_pos hf] at hq
      simp only [Prod.mk.injEq] at hq
      obtain ⟨rfl, rfl, rfl⟩ := hq
      exact reads_ok w base r s V bs pos n h hb hn h2.1 h2.2 hf
    · rw [if_neg hf] at hq
      simp only [Prod.mk.injEq] at hq
      obtain ⟨rfl, rfl, rfl⟩ := hq
      exact reads_short w base r s V bs pos n h hn h2.1 h2.2 hp (by omega)
  · rw [if_neg hv] at hq
    simp only [Prod.mk.injEq] at hq
    obtain ⟨rfl, rfl, rfl⟩ := hq
    exact reads_width w base r s V bs pos n h (by simpa using hv)

/-- What Unpack holds while it reads. -/
structure Upk (w : World) (B r s br bu : Nat) (V : Value) (bs : List Int) (pos : Nat) (U : Value) (us : List Int) : Prop where
  rd : Rdr w B r s V bs pos
  vr : IsB w br 46 #[.pointer (some ⟨r, 0, none⟩)]
  vu : IsB w bu 76 #[U]
  own : w.ownsRow B 22 1 U us.length (us.map (Value.int .u32))
  ls : B ≤ s
  lu : B ≤ bu
theorem own_two {w : World} {b1 b2 : Nat} {e1 e2 : TypeId} {s1 s2 n1 n2 : Nat} {v1 v2 : Value} {x1 x2 : List Value} (h1 : w.ownsRow b1 e1 s1 v1 n1 x1) (h2 : w.ownsRow b2 e2 s2 v2 n2 x2) (hn : e1 ≠ e2) : v1.ownBlock = none ∨ v1.ownBlock ≠ v2.ownBlock := by
  rcases h2.2 with ⟨rfl, _⟩ | ⟨g, cap, cur, rfl, _, hh, _⟩
  · cases v1.ownBlock with
    | none => exact .inl rfl
    | some k => exact .inr (by simp [Value.ownBlock])
  · exact .inr (own_ne h1 (show IsB w g e2 cur from hh) hn)
theorem Rdr.other {w w2 : World} {base r s b2 n : Nat} {V U : Value} {bs : List Int} {pos : Nat} {xs : List Value} (h : Rdr w base r s V bs pos) (hU : w.ownsRow b2 22 1 U n xs) (k : w.grownBy w2 U.ownBlock) : Rdr w2 base r s V bs pos :=
  ⟨h.rb.keep k (fun e => own_ne hU h.rb (by decide) e.symm), h.sb.keep k (fun e => own_ne hU h.sb (by decide) e.symm), h.own.kept k (own_two h.own hU (by decide))⟩

/-- One number has been read: the state that Unpack holds then. -/
def UpQ (er : Int) (w : World) (B r s br bu : Nat) (V : Value) (bs : List Int) (pos2 : Nat) (us : List Int) (e : Ending) (w' : World) : Prop :=
  e = .returned (.int .i64 er) ∧ Below B w w' ∧ ∃ U, Upk w' B r s br bu V bs pos2 U us

set_option maxRecDepth 100000 in
set_option maxHeartbeats 1000000 in
theorem closure_unpack (w : World) (B r s br bu : Nat) (V : Value) (bs : List Int) (pos : Nat) (U : Value) (us : List Int) (h : Upk w B r s br bu V bs pos U us) (hB : B ≤ w.heap.size) (hb : ∀ b ∈ bs, 0 ≤ b ∧ b ≤ 255) (hn : bs.length ≤ 60000) (hp : pos ≤ 8 * bs.length)
    (hu : us.length ≤ 10000) (i n : Int) (er v : Int) (pos2 : Nat) (hq : rdStep bs pos n = (er, v, pos2)) :
    Calls Try.prog 77 #[.int .i64 i, .int .i64 n, .pointer (some ⟨br, 0, none⟩), .pointer (some ⟨bu, 0, none⟩)] w (UpQ er w B r s br bu V bs pos2 (us ++ [v])) := by
  obtain ⟨i0, hi, hz0, hz1, hz2⟩ := info_parts infoU32
  obtain ⟨a, c, rfl⟩ := own_shape h.own
  have c0 : w.cell? ⟨br, 0, none⟩ = some (.pointer (some ⟨r, 0, none⟩)) := h.vr.cell 0
  have HM := Lib.hid (reads_any w B r s V bs pos n h.rd hb hn hp er v pos2 hq)
  clear hq
  go_enter Try.func77, Try.ntmps77
  go_wp2_with fail
  refine HM.out.mono ?_
  rintro e w1 ⟨rfl, g1, q1⟩
  have vr1 := h.vr.keepS g1 h.rd.sb (by decide)
  have vu1 := h.vu.keepS g1 h.rd.sb (by decide)
  have ow1 := own_keepS h.own g1 h.rd.sb (by decide)
  have bl1 : Below B w w1 := (Below.refl _ _).grown g1 hB (by intro k hk; injection hk with hk; have := h.ls; omega)
  have c1 : w1.cell? ⟨bu, 0, none⟩ = some (.slice a us.length c) := vu1.cell 0
  have f1 := vu1.free 0
  have z1 := g1.size
  have q2 := q1.keep0 (gb_alloc w1 (.cells #[.int .u32 v] 22) none)
  have vr2 := vr1.alloc (.cells #[.int .u32 v] 22)
  have vu2 := vu1.alloc (.cells #[.int .u32 v] 22)
  have ow2 := ow1.alloc (.cells #[.int .u32 v] 22)
  have bl2 := bl1.alloc (by omega) (.cells #[.int .u32 v] 22)
  have HQ2 := Lib.hid q2
  have HR2 := Lib.hid vr2
  have HU2 := Lib.hid vu2
  have HB2 := Lib.hid bl2
  clear g1 q1 q2 vr1 vr2 vu2 bl1 bl2 ow1
  go_wp2_with (at_builtin; refine wpList_append_own _ rfl _ _ 76 rfl B 22 i0 (.int .u32 0) 1 4 Try.underlying76 hi hz0 hz1 hz2 rfl (by decide) _ us.length (us.map (Value.int .u32)) rfl ow2 ⟨w1.heap.size, 0, none⟩ 1 1 [.int .u32 v] rfl rfl ?c1 ?c2 ?c3 ?c4 ?c5 ?_)
  case c1 =>
    intro j u hj
    match j, hj with
    | 0, hj => simp at hj; subst hj; simp [Addr.add]
  case c2 => intro u hu; simp at hu; subst hu; rfl
  case c3 => unfold maxLen; omega
  case c4 => omega
  case c5 => simp; omega
  · intro v' w3 hown hgrow _
    obtain ⟨g, cc, rfl⟩ := own_head hown (by omega)
    have vu3 := HU2.out.keep hgrow (fun e => own_ne ow2 HU2.out (by decide) e.symm)
    have vr3 := HR2.out.keep hgrow (fun e => own_ne ow2 HR2.out (by decide) e.symm)
    have rd3 := HQ2.out.other ow2 hgrow
    have bl3 : Below B w w3 := HB2.out.grown hgrow (by simp; omega) (by intro k hk; exact (ow2.lt k hk).1)
    have c3 : w3.cell? ⟨bu, 0, none⟩ = some (.slice a us.length c) := vu3.cell 0
    have f3 := vu3.free 0
    have vu4 := vu3.set 0 (.slice (some ⟨g, 0, none⟩) (us.length + 1) cc)
    have gs := gb_set w3 bu 0 (.slice (some ⟨g, 0, none⟩) (us.length + 1) cc)
    have vr4 := vr3.keepS gs vu3 (by decide)
    have rd4 : Rdr (w3.setCell ⟨bu, 0, none⟩ (.slice (some ⟨g, 0, none⟩) (us.length + 1) cc)) B r s V bs pos2 := ⟨rd3.rb.keepS gs vu3 (by decide), rd3.sb.keepS gs vu3 (by decide), own_keepS rd3.own gs vu3 (by decide)⟩
    have ow4 := own_keepS hown gs vu3 (by decide)
    have bl4 := bl3.setCell (p := ⟨bu, 0, none⟩) h.lu (.slice (some ⟨g, 0, none⟩) (us.length + 1) cc)
    have FIN := Lib.hid (show Below B w (w3.setCell ⟨bu, 0, none⟩ (.slice (some ⟨g, 0, none⟩) (us.length + 1) cc)) ∧ ∃ U, Upk (w3.setCell ⟨bu, 0, none⟩ (.slice (some ⟨g, 0, none⟩) (us.length + 1) cc)) B r s br bu V bs pos2 U (us ++ [v]) from
      ⟨bl4, _, ⟨rd4, vr4, vu4, by simpa using ow4, h.ls, h.lu⟩⟩)
    clear hown hgrow vu3 vr3 rd3 bl3 vu4 gs vr4 rd4 ow4 bl4 ow2 HQ2 HR2 HU2 HB2 hi hz0 hz1 hz2 c0 c1 f1 z1
    go_wp2
    go_ret
    exact ⟨rfl, FIN.out⟩
end Go.Proofs.Ytiphcknnljjanaa
