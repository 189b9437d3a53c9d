/- Header: the walks of widths, Check and Bits; no condition but sizes. -/
import Derived.Test.YtgknooblnpmloaaHdC
namespace Go.Proofs.Ytgknooblnpmloaa
open Go.RowKit
set_option linter.unusedVariables false

/-- A slice of numbers that the call owns. -/
def NL (w : World) (base : Nat) (V : Value) (L : List Int) : Prop := w.ownsRow base 3 1 V L.length (L.map (Value.int .i64))
theorem NL.keep0 {w w2 : World} {base : Nat} {V : Value} {L : List Int} (h : NL w base V L) (k : w.grownBy w2 none) : NL w2 base V L := own_keep0 h k
theorem NL.shape {w : World} {base : Nat} {V : Value} {L : List Int} (h : NL w base V L) : ∃ a c, V = .slice a L.length c := own_shape h
theorem NL.slr {w : World} {base c n : Nat} {a : Option Addr} {L : List Int} (h : NL w base (.slice a n c) L) (hn : n = L.length) : SlR w a n c (L.map (Value.int .i64)) := by subst hn; exact own_slr h
theorem NL.put {w : World} {base g n c : Nat} {L : List Int} (h : NL w base (.slice (some ⟨g, 0, none⟩) n c) L) (hn : n = L.length) (p : Nat) (v : Int) :
    NL (w.setCell ⟨g, p, none⟩ (.int .i64 v)) base (.slice (some ⟨g, 0, none⟩) n c) (L.set p v) := by
  subst hn
  have k := (World.ownsRow.stored h p (.int .i64 v)).1
  unfold NL
  rw [List.map_set, List.length_set]
  exact k
theorem NL.free {w : World} {base g n c : Nat} {L : List Int} (h : NL w base (.slice (some ⟨g, 0, none⟩) n c) L) (hn : n = L.length) (p : Nat) : w.frozen? ⟨g, p, none⟩ = false := by
  subst hn
  obtain ⟨cs, hb⟩ := own_blk h
  exact hb.free p
theorem NL.at_ {w : World} {base g n c : Nat} {L : List Int} (h : NL w base (.slice (some ⟨g, 0, none⟩) n c) L) (hn : n = L.length) (p : Nat) (hp : p < L.length) : w.cell? ⟨g, p, none⟩ = some (.int .i64 (L.getD p 0)) := by
  subst hn
  exact own_cell h p hp
/-- The call returns a row of numbers of its own; beside it the world only grew. -/
def RetN (base : Nat) (L : List Int) (w : World) (e : Ending) (w' : World) : Prop := ∃ V, e = .returned V ∧ NL w' base V L ∧ w.grownBy w' none
theorem infoI64' : (Try.prog.info? 3).map (fun i => (i.zero, i.size, i.bytes)) = some (some (.int .i64 0), 1, 8) := by kernel_rfl
/-- The first k numbers, zeros behind. -/
def upto (l : List Int) (k : Nat) : List Int := l.take k ++ List.replicate (l.length - k) 0
theorem upto_len (l : List Int) (k : Nat) (h : k ≤ l.length) : (upto l k).length = l.length := by unfold upto; simp; omega
theorem upto_zero (l : List Int) : upto l 0 = List.replicate l.length 0 := by simp [upto]
theorem upto_full (l : List Int) : upto l l.length = l := by simp [upto]
theorem upto_set (l : List Int) (k : Nat) (h : k < l.length) : (upto l k).set k (l.getD k 0) = upto l (k + 1) := by
  unfold upto
  have h1 : (l.take k).length = k := by simp; omega
  have e : l.take (k + 1) = l.take k ++ [l.getD k 0] := by rw [List.take_add_one]; simp [h]
  rw [List.set_append_right _ _ (by omega), h1, Nat.sub_self, e]
  obtain ⟨m, hm⟩ : ∃ m, l.length - k = m + 1 := ⟨l.length - k - 1, by omega⟩
  rw [hm, show l.length - (k + 1) = m by omega, List.replicate_succ, List.set_cons_zero, List.append_assoc]
  rfl
set_option maxRecDepth 100000 in
set_option maxHeartbeats 4000000 in
theorem widths_any (w : World) (hs : ByteArray) (a : Option Addr) (n c : Nat) (L : List Fld) (h : SF w a n c L) (hn : n ≤ 1000) :
    Calls Try.prog 38 #[.agg #[.string hs, .slice a n c]] w (RetN w.heap.size (wsL L) w) := by
  obtain ⟨i0, hi, hz0, hz1, hz2⟩ := info_parts infoI64'
  have HI := Lib.hid hi
  have HH := Lib.hid h
  have HL := Lib.hid (show (wsL L).length = n by rw [wsL_len, h.len])
  clear hi h
  go_enter Try.func38, Try.ntmps38
  go_wp2_with (at_make; refine wpList_make_full _ rfl _ _ 82 rfl w.heap.size 3 i0 (.int .i64 0) 1 Try.underlying82 HI.out hz0 hz1 .i64 .i64 _ _ n rfl rfl ?c1 ?c2 ?c3 ?c4 ?c5 ?_)
  case c1 => first | rfl | omega
  case c2 => first | rfl | omega
  case c3 => rw [hz2]; omega
  case c4 => unfold maxLen; omega
  case c5 => simp
  intro w2 hown hg
  have b1 := ((IsB.new w 24 #[.string hs, .slice a n c]).keep0 hg).cell 1
  have N1 := Lib.hid (show NL w2 w.heap.size (.slice (some ⟨w.heap.size + 1, 0, none⟩) n n) (upto (wsL L) 0) by
    unfold NL
    rw [upto_zero, HL.out, List.map_replicate, List.length_replicate, ← made_zero]
    first | exact hown | simpa using hown)
  have G1 := Lib.hid (gb_trans (gb_alloc w _ none) hg)
  simp at b1
  clear hown hg
  go_wp2_with fail
  go_loopw [13] (fun i wr => ∃ k : Nat, k ≤ n ∧ i = .int .i64 k ∧ NL wr w.heap.size (.slice (some ⟨w.heap.size + 1, 0, none⟩) n n) (upto (wsL L) k) ∧ w.grownBy wr none) (fun i _ => n - (intOf i).toNat)
  case atStart => exact ⟨0, Nat.zero_le _, rfl, N1.out, G1.out⟩
  case round =>
    obtain ⟨k, hk, rfl, q1, q2⟩ := hrel
    clear N1 G1 b1
    have N1 := Lib.hid q1
    have G1 := Lib.hid q2
    clear q1 q2
    by_cases hlt : k < n
    · obtain ⟨ad, rfl⟩ := sf_some HH.out (by omega)
      obtain ⟨c0, c1⟩ := (HH.out.keep0 G1.out).cells ad rfl k hlt
      have i1 : (k : Int) < n := by omega
      have i0 : (0 : Int) ≤ (k : Int) := by omega
      have hl : k < L.length := by rw [HH.out.len]; exact hlt
      have HW := Lib.hid (wsL_get L k hl)
      have HS := Lib.hid (upto_set (wsL L) k (by rw [HL.out]; exact hlt))
      have hu := upto_len (wsL L) k (by rw [HL.out]; omega)
      rw [HL.out] at hu
      rw [HW.out] at HS
      obtain ⟨p, hp⟩ : ∃ p, p = L.getD k fz := ⟨_, rfl⟩
      rw [← hp] at c0 c1 HS
      obtain ⟨v, m⟩ := p
      have N2 := Lib.hid (show ∀ o, NL ((wr.alloc o).setCell ⟨w.heap.size + 1, k, none⟩ (.int .i64 m)) w.heap.size (.slice (some ⟨w.heap.size + 1, 0, none⟩) n n) (upto (wsL L) (k + 1)) by
        intro o
        have q := (N1.out.keep0 (gb_alloc wr o none)).put hu.symm k m
        rw [HS.out] at q
        exact q)
      have f1 := fun o => (N1.out.keep0 (gb_alloc wr o none)).free hu.symm k
      have d1 := fun o => (N1.out.keep0 (gb_alloc wr o none)).at_ hu.symm k (by rw [hu]; exact hlt)
      obtain ⟨y, hy⟩ : ∃ y, y = (upto (wsL L) k).getD k 0 := ⟨_, rfl⟩
      rw [← hy] at d1
      clear hp hl HW hu hy
      go_wp2
      go_roundw
      case rel => exact ⟨k + 1, by omega, by go_num, N2.out _, gb_new (gb_trans (gb_any (gb_trans G1.out (gb_alloc _ _ none))) (gb_set _ _ _ _)) (by omega)⟩
      case measure => simp [intOf]; omega
    · have hke : k = n := by omega
      have E := Lib.hid (show upto (wsL L) k = wsL L by rw [hke, ← HL.out, upto_full])
      rw [E.out] at N1
      subst hke
      go_wp2
      go_ret
      exact ⟨_, rfl, N1.out, G1.out⟩
end Go.Proofs.Ytgknooblnpmloaa
