/- A queue and the list of its codes in the order of their turns: the calls of the law. -/
import Derived.Test.YtmldoeigemippaaPqP
namespace Go.Proofs.Ytmldoeigemippaa
open Go.RowKit
set_option linter.unusedVariables false

/-- What Push and Pop turn. -/
def TS (t : TypeId) : Prop := t = 62 ∨ t = 65
structure DQ (W : World) (q s : Nat) (cap : Int) (E : Int → Int) (p : Int) (T : List Int) (w : World) : Prop where
  ex : ∃ V H, QS W q s cap p V E H w ∧ QR T H
  lt : ∀ c ∈ T, tC c < p
  p0 : 0 ≤ p
theorem DQ.grown {W : World} {q s : Nat} {cap : Int} {E : Int → Int} {p : Int} {T : List Int} {w : World} (h : DQ W q s cap E p T w) : W.grownBy w none := by
  obtain ⟨V, H, h1, _⟩ := h.ex
  exact h1.hq.grown
theorem DQ.keep0 {W : World} {q s : Nat} {cap : Int} {E : Int → Int} {p : Int} {T : List Int} {w w2 : World} (h : DQ W q s cap E p T w) (g : w.grownBy w2 none) : DQ W q s cap E p T w2 := by
  obtain ⟨V, H, h1, h2⟩ := h.ex
  exact ⟨⟨V, H, h1.keep0 g, h2⟩, h.lt, h.p0⟩
/-- A store into other memory leaves the queue as it was. -/
theorem DQ.kept {W : World} {q s : Nat} {cap : Int} {E : Int → Int} {p : Int} {T : List Int} {w w2 : World} {own : Nat → Obj → Prop} (h : DQ W q s cap E p T w) (k : Kt own w w2) (g : W.grownBy w2 none) (h1 : ∀ b cs, ¬ own b (.cells cs 56 (0, 0))) (h2 : ∀ b cs, ¬ own b (.cells cs 62 (0, 0))) (h3 : ∀ b cs, ¬ own b (.cells cs 65 (0, 0))) : DQ W q s cap E p T w2 := by
  obtain ⟨V, H, i1, i2⟩ := h.ex
  exact ⟨⟨V, H, ⟨k.isb i1.qv (h1 _ _), ⟨k.isb i1.hq.var (h2 _ _), i1.hq.at_, k.row i1.hq.row h3, g, i1.hq.lowv, i1.hq.lowr⟩, i1.lowq⟩, i2⟩, h.lt, h.p0⟩
theorem Fr.ts {W w w2 : World} {q s : Nat} {cap p : Int} {V : Value} {E : Int → Int} {H : List Int} (h : QS W q s cap p V E H w) (f : Fr w w2 s V.ownBlock) : Kt (KI TS W.heap.size) w w2 :=
  f.kt (fun o ho => by rw [show w.heap[s]? = _ from h.hq.var] at ho; cases ho; exact ⟨h.hq.lowv, .inl rfl⟩) (fun g o e ho => by
    have hq1 := (World.ownsRow.lt h.hq.row g e).1
    rcases h.hq.row.2 with ⟨e2, _⟩ | ⟨g1, c1, cs, e2, _, e3, _⟩
    · rw [e2] at e; cases e
    · have e4 : g = g1 := by rw [e2] at e; simpa [Value.ownBlock] using e.symm
      subst e4
      rw [e3] at ho
      cases ho
      exact ⟨hq1, .inr rfl⟩)
/-- Behind the call no block but s and rows of items have changed. -/
def Fr2 (w w2 : World) (s : Nat) : Prop := ∃ r, Fr w w2 s r ∧ ∀ g, r = some g → ∃ cs, IsB w g 65 cs
theorem Fr2.isb {w w2 : World} {s g : Nat} {t : TypeId} {cs : Array Value} (h : Fr2 w w2 s) (k : IsB w g t cs) (h1 : g ≠ s) (h2 : t ≠ 65) : IsB w2 g t cs := by
  obtain ⟨r, f, hr⟩ := h
  refine f.isb k h1 fun e => ?_
  obtain ⟨cs2, k2⟩ := hr g e
  exact IsB.ne k k2 h2 rfl
theorem Fr2.of {W w w2 : World} {q s : Nat} {cap p : Int} {V : Value} {E : Int → Int} {H : List Int} (h : QS W q s cap p V E H w) (f : Fr w w2 s V.ownBlock) : Fr2 w w2 s := by
  refine ⟨_, f, fun g e => ?_⟩
  rcases h.hq.row.2 with ⟨e2, _⟩ | ⟨g1, c1, cs, e2, _, e3, _⟩
  · rw [e2] at e; cases e
  · have e4 : g = g1 := by rw [e2] at e; simpa [Value.ownBlock] using e.symm
    subst e4
    exact ⟨_, e3⟩
/-- A queue just made. -/
structure NQ (q s : Nat) (n : Int) (w : World) : Prop where
  a : IsB w q 56 #[.pointer (some ⟨s, 0, none⟩)]
  b : IsB w s 62 #[.int .i64 n, .int .u64 0, .slice none 0 0]
theorem NQ.kept {q s s2 : Nat} {n : Int} {w w2 : World} (h : NQ q s n w) (f : Fr2 w w2 s2) (h1 : q ≠ s2) (h2 : s ≠ s2) : NQ q s n w2 := ⟨f.isb h.a h1 (by decide), f.isb h.b h2 (by decide)⟩
theorem DQ.new (W w : World) (E : Int → Int) (n : Int) (h : W.grownBy w none) : DQ W (w.heap.size + 1) w.heap.size n E 0 [] ((w.alloc (.cells #[.int .i64 n, .int .u64 0, .slice none 0 0] 62)).alloc (.cells #[.pointer (some ⟨w.heap.size, 0, none⟩)] 56)) :=
  ⟨⟨_, _, QS.new W w E n h, QR.nil⟩, (by intro c hc; cases hc), Int.le_refl _⟩
def codeOf (key p : Int) : Int := key * 18446744073709551616 + p
theorem codeOf_k (key p : Int) (h0 : 0 ≤ p) (h1 : p < 1000000000000) : kC (codeOf key p) = key ∧ tC (codeOf key p) = p := code_k key p h0 (by omega)
theorem DQ.mem {W : World} {q s : Nat} {cap : Int} {E : Int → Int} {p : Int} {T : List Int} {w : World} (h : DQ W q s cap E p T w) {V : Value} {H : List Int} (h2 : QR T H) : ∀ c ∈ H, tC c ≠ p := by
  intro c hc
  have := h.lt c (List.count_pos_iff.1 (by rw [← h2.cnt]; exact List.count_pos_iff.2 hc))
  omega
theorem dq_push {W w : World} {q s : Nat} {cap : Int} {E : Int → Int} {p : Int} {T : List Int} (h : DQ W q s cap E p T w) (key x : Int) (hf : (T.length : Int) < cap) (hn : T.length ≤ 99999) (hp : p < 100000000) :
    Calls Try.prog 11 #[.pointer (some ⟨q, 0, none⟩), .int .i64 key, .int .i64 x] w fun e w' => e = .returned (.int .i64 0) ∧ DQ W q s cap (upd E p x) (p + 1) (T ++ [codeOf key p]) w' ∧ Kt (KI TS W.heap.size) w w' ∧ Fr2 w w' s := by
  obtain ⟨V, H, h1, h2⟩ := h.ex
  refine (push_ok W w q s cap p V E H key x h1 (by rw [h2.len]; exact hf) (by rw [h2.len]; exact hn) (h.mem (V := V) h2) h.p0 (by omega)).mono ?_
  rintro e w' ⟨rfl, V', h', f'⟩
  obtain ⟨k1, k2⟩ := codeOf_k key p h.p0 (by omega)
  refine ⟨rfl, ⟨⟨V', _, h', h2.push _ fun c hc => by rw [k2]; exact h.lt c hc⟩, ?_, by have := h.p0; omega⟩, Fr.ts h1 f', Fr2.of h1 f'⟩
  intro c hc
  rcases List.mem_append.1 hc with hc | hc
  · have := h.lt c hc; omega
  · rw [List.mem_singleton.1 hc, k2]; omega
theorem dq_full {W w : World} {q s : Nat} {cap : Int} {E : Int → Int} {p : Int} {T : List Int} (h : DQ W q s cap E p T w) (key x : Int) (hf : cap ≤ (T.length : Int)) :
    Calls Try.prog 11 #[.pointer (some ⟨q, 0, none⟩), .int .i64 key, .int .i64 x] w (RetV (.int .i64 13) w) := by
  obtain ⟨V, H, h1, h2⟩ := h.ex
  exact push_full W w q s cap p V E H key x h1 (by rw [h2.len]; exact hf)
theorem dq_pop {W w : World} {q s : Nat} {cap : Int} {E : Int → Int} {p : Int} {T : List Int} (h : DQ W q s cap E p T w) (hn : T.length ≤ 100000) (h0 : 0 < T.length) :
    Calls Try.prog 13 #[.pointer (some ⟨q, 0, none⟩)] w fun e w' => e = .returned (.tuple #[.int .i64 (kC (minT T)), .int .i64 (E (tC (minT T))), .bool true]) ∧ DQ W q s cap E p (popT T) w' ∧ Kt (KI TS W.heap.size) w w' := by
  obtain ⟨V, H, h1, h2⟩ := h.ex
  rw [← h2.head h0]
  refine (pop_some W w q s cap p V E H h1 (by rw [h2.len]; exact h0) (by rw [h2.len]; exact hn) h2.dist).mono ?_
  rintro e w' ⟨rfl, V', h', f'⟩
  exact ⟨rfl, ⟨⟨V', _, h', h2.pop h0⟩, fun c hc => h.lt c (popT_mem T c hc), h.p0⟩, Fr.ts h1 f'⟩
theorem dq_len {W w : World} {q s : Nat} {cap : Int} {E : Int → Int} {p : Int} {T : List Int} (h : DQ W q s cap E p T w) : Calls Try.prog 19 #[.pointer (some ⟨q, 0, none⟩)] w (RetS (.int .i64 T.length) w) := by
  obtain ⟨V, H, h1, h2⟩ := h.ex
  have := len_any W w q s cap p V E H h1
  rwa [h2.len] at this
theorem dq_peek {W w : World} {q s : Nat} {cap : Int} {E : Int → Int} {p : Int} {T : List Int} (h : DQ W q s cap E p T w) (h0 : 0 < T.length) : Calls Try.prog 15 #[.pointer (some ⟨q, 0, none⟩)] w (RetV (.tuple #[.int .i64 (kC (minT T)), .int .i64 (E (tC (minT T))), .bool true]) w) := by
  obtain ⟨V, H, h1, h2⟩ := h.ex
  have := peek_some W w q s cap p V E H h1 (by rw [h2.len]; exact h0)
  rwa [h2.head h0] at this
theorem dq_peek0 {W w : World} {q s : Nat} {cap : Int} {E : Int → Int} {p : Int} (h : DQ W q s cap E p [] w) : Calls Try.prog 15 #[.pointer (some ⟨q, 0, none⟩)] w (RetV (.tuple #[.int .i64 0, .int .i64 0, .bool false]) w) := peek_none w _ (dq_len h)
theorem dq_pop0 {W w : World} {q s : Nat} {cap : Int} {E : Int → Int} {p : Int} (h : DQ W q s cap E p [] w) : Calls Try.prog 13 #[.pointer (some ⟨q, 0, none⟩)] w (RetV (.tuple #[.int .i64 0, .int .i64 0, .bool false]) w) := pop_none w _ (dq_peek0 h)
theorem dq_list {W w : World} {q s : Nat} {cap : Int} {E : Int → Int} {p : Int} {T : List Int} (h : DQ W q s cap E p T w) (hn : T.length ≤ 100000) (m : Nat) (hm : m ≤ 100000) : Calls Try.prog 16 #[.pointer (some ⟨q, 0, none⟩), .int .i64 m] w (RetI E ((allT T.length T).take m) w) := by
  obtain ⟨V, H, h1, h2⟩ := h.ex
  have k := h1.seqs (fun x => by rw [h2.cnt]; exact h2.srt.count x) (by rw [h2.len]; exact hn)
  rw [h2.len, h2.dr] at k
  exact list_any w _ E _ m k hm
end Go.Proofs.Ytmldoeigemippaa
