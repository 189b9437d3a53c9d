/- The walks of bitio's NewReader and Rest; no condition but sizes within 60000. -/
import Derived.Test.YtgknooblnpmloaaIoB
import Derived.StillTailTactics
namespace Go.Proofs.Ytgknooblnpmloaa
open Go.RowKit

theorem infoU8 : (Try.prog.info? 5).map (fun i => (i.zero, i.size, i.bytes)) = some (some (.int .u8 0), 1, 1) := by kernel_rfl

/-- What is known of a slice that is only read: its length, and its cells where it has an address. -/
def SlR (w : World) (a : Option Addr) (n c : Nat) (xs : List Value) : Prop :=
  xs.length = n ∧ (a = none → n = 0 ∧ c = 0) ∧ ∀ ad, a = some ad → ∀ j u, xs[j]? = some u → w.cell? (ad.add j) = some u
theorem SlR.keep0 {w w2 : World} {a : Option Addr} {n c : Nat} {xs : List Value} (h : SlR w a n c xs) (k : w.grownBy w2 none) : SlR w2 a n c xs :=
  ⟨h.1, h.2.1, fun ad e j u hu => k.cell (h.2.2 ad e j u hu) (by simp)⟩
theorem ints_one (k : IntKind) (zs : List Int) : ∀ u ∈ zs.map (Value.int k), u.oneCell' = true := by
  intro u hu; obtain ⟨z, _, rfl⟩ := List.mem_map.1 hu; rfl
/-- The call returns a slice of bytes of its own and no error. -/
def RetS (bs : List Int) (w : World) (base : Nat) (e : Ending) (w' : World) : Prop :=
  ∃ v', e = .returned (.tuple #[v', .int .i64 0]) ∧ w.grownBy w' none ∧ w'.ownsRow base 5 1 v' bs.length (bs.map (Value.int .u8)) ∧ (bs = [] → v' = .slice none 0 0)

/-- The call returns a reader at the first bit of its own copy. -/
def NewR (bs : List Int) (w : World) (e : Ending) (w' : World) : Prop :=
  ∃ r s V, e = .returned (.pointer (some ⟨r, 0, none⟩)) ∧ w.grownBy w' none ∧ Rdr w' w.heap.size r s V bs 0 ∧ (bs = [] → V = .slice none 0 0) ∧ w.heap.size ≤ r ∧ w.heap.size ≤ s

theorem newR_close (w w1 : World) (V : Value) (bs : List Int) (hg : w.grownBy w1 none) (hown : w1.ownsRow w.heap.size 5 1 V bs.length (bs.map (Value.int .u8))) (hnil : bs = [] → V = .slice none 0 0) :
    NewR bs w (.returned (.pointer (some ⟨w1.heap.size + 1, 0, none⟩))) ((w1.alloc (.cells #[V, .int .i64 0] 85)).alloc (.cells #[.pointer (some ⟨w1.heap.size, 0, none⟩)] 74)) := by
  have e : (w1.alloc (.cells #[V, .int .i64 0] 85)).heap.size = w1.heap.size + 1 := by simp
  have hs := hg.size
  refine ⟨w1.heap.size + 1, w1.heap.size, V, rfl, gb_trans (gb_trans hg (gb_alloc _ _ _)) (gb_alloc _ _ _), ⟨?_, ?_, ?_⟩, hnil, by omega, hs⟩
  · have k := IsB.new (w1.alloc (.cells #[V, .int .i64 0] 85)) 74 #[.pointer (some ⟨w1.heap.size, 0, none⟩)]
    rw [e] at k; exact k
  · exact (IsB.new w1 85 #[V, .int .i64 0]).alloc _
  · exact (hown.alloc _).alloc _

theorem own_cap {w : World} {base : Nat} {e : TypeId} {size n c : Nat} {a : Option Addr} {xs : List Value} (h : w.ownsRow base e size (.slice a n c) n xs) : n ≤ c := by
  rcases h.2 with ⟨h1, rfl⟩ | ⟨g, cap, cur, h1, _, _, h2, _⟩
  · omega
  · injection h1 with _ _ hc; omega
theorem cut_cells {w : World} {base : Nat} {e : TypeId} {k : IntKind} {g c q : Nat} {bs : List Int} (h : w.ownsRow base e 1 (.slice (some ⟨g, 0, none⟩) bs.length c) bs.length (bs.map (Value.int k))) :
    ∀ j u, ((bs.drop q).map (Value.int k))[j]? = some u → w.cell? ((if c = q then (⟨g, 0, none⟩ : Addr) else ⟨g, q, none⟩).add j) = some u := by
  intro j u hu
  have hcap := own_cap h
  have hj : j < bs.length - q := by
    have := (List.getElem?_eq_some_iff.1 hu).1
    simpa using this
  have hne : c ≠ q := by omega
  rw [if_neg hne]
  have e1 : ((⟨g, q, none⟩ : Addr).add j) = ⟨g, q + j, none⟩ := by unfold Addr.add; split <;> simp_all
  rw [e1, own_cell h (q + j) (by omega)]
  have hjq : q + j < bs.length := by omega
  rw [← hu, List.getElem?_map, List.getElem?_drop, List.getElem?_eq_getElem hjq]
  simp [hjq]
theorem newReader_any (w : World) (a : Option Addr) (n c : Nat) (bs : List Int) (h : SlR w a n c (bs.map (Value.int .u8))) (hn : bs.length ≤ 60000) :
    Calls Try.prog 16 #[.slice a n c] w (NewR bs w) := by
  obtain ⟨i0, hi, hz0, hz1, hz2⟩ := info_parts infoU8
  obtain ⟨hl, hno, hc⟩ := h
  have hl : bs.length = n := by simpa using hl
  subst hl
  cases a with
  | none =>
    obtain ⟨h0, rfl⟩ := hno rfl
    have hbs : bs = [] := List.length_eq_zero_iff.1 h0
    subst hbs
    have HI := Lib.hid hi
    clear hno hc hn hz0 hz1 hz2 hi h0
    go_enter Try.func16, Try.ntmps16
    go_wp2_with (at_builtin; refine wpList_append_own_none rfl _ _ 33 rfl w.heap.size 5 i0 1 Try.underlying33 HI.out _ _ _ rfl (World.ownsRow_nil _ _ _ _) rfl ?_)
    go_ret
    exact newR_close w w (.slice none 0 0) [] (gb_refl _ _) (World.ownsRow_nil _ _ _ _) (fun _ => rfl)
  | some ad =>
    have HC := Lib.hid (hc ad rfl)
    have HI := Lib.hid hi
    clear hno hc hi
    go_enter Try.func16, Try.ntmps16
    go_wp2_with (at_builtin; refine wpList_append_own _ rfl _ _ 33 rfl w.heap.size 5 i0 (.int .u8 0) 1 1 Try.underlying33 HI.out hz0 hz1 hz2 rfl (by decide) _ 0 [] rfl (World.ownsRow_nil _ _ _ _) ad bs.length c (bs.map (Value.int .u8)) rfl ?c1 HC.out (ints_one _ _) ?c3 ?c4 ?c5 ?_)
    case c1 => simp
    case c3 => unfold maxLen; omega
    case c4 => omega
    case c5 => exact Nat.le_refl _
    · intro v' w1 hown hg hiff
      try simp only [List.nil_append, Nat.zero_add] at hown
      obtain ⟨a2, c2, rfl⟩ := own_shape hown
      have HO := Lib.hid hown
      have HF := Lib.hid hiff
      clear hown hiff hz0 hz1 hz2 HC HI hl
      go_wp2
      go_ret
      exact newR_close w w1 _ bs hg HO.out (fun e => HF.out.2 e)

end Go.Proofs.Ytgknooblnpmloaa
