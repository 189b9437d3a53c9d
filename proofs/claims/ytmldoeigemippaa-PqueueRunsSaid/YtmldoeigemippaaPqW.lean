/- The law Runs. -/
import Derived.Test.YtmldoeigemippaaFrO
namespace Go.Proofs.Ytmldoeigemippaa
open Go.RowKit
set_option linter.unusedVariables false

def RetG (cap : Int) (n : Nat) (E : Int → Int) (T : List Int) (g : Int) (w : World) (e : Ending) (w' : World) : Prop := ∃ a c, e = .returned (.tuple #[.agg #[.int .i64 cap, .slice a n c], .int .i64 g]) ∧ RL w' 0 (.slice a n c) E T ∧ w.grownBy w' none
theorem RetG.of {cap : Int} {n base : Nat} {E : Int → Int} {T : List Int} {g : Int} {w : World} {e : Ending} {w' : World} (h : RetQ2 cap base E T [.int .i64 g] w e w') (hn : n = T.length) : RetG cap n E T g w e w' := by
  obtain ⟨V, rfl, r, g⟩ := h
  obtain ⟨a, c, rfl⟩ := r.shape
  subst hn
  exact ⟨a, c, rfl, own_low r (Nat.zero_le _), g⟩
def RetH (cap : Int) (n : Nat) (E : Int → Int) (T : List Int) (x y : Int) (ok : Bool) (w : World) (e : Ending) (w' : World) : Prop := ∃ a c, e = .returned (.tuple #[.agg #[.int .i64 cap, .slice a n c], .int .i64 x, .int .i64 y, .bool ok]) ∧ RL w' 0 (.slice a n c) E T ∧ w.grownBy w' none
theorem RetH.of {cap x y : Int} {ok : Bool} {n base : Nat} {E : Int → Int} {T : List Int} {w : World} {e : Ending} {w' : World} (h : RetQ2 cap base E T [.int .i64 x, .int .i64 y, .bool ok] w e w') (hn : n = T.length) : RetH cap n E T x y ok w e w' := by
  obtain ⟨V, rfl, r, g⟩ := h
  obtain ⟨a, c, rfl⟩ := r.shape
  subst hn
  exact ⟨a, c, rfl, own_low r (Nat.zero_le _), g⟩
/-- What the two sides answer to Push, Pop, Peek. -/
structure Same (W : World) (q s b : Nat) (cap : Int) (m : Nat) (w : World) (a : Option Addr) (n c : Nat) : Prop where
  ex : ∃ E p T, p ≤ (m : Int) ∧ DQ W q s cap E p T w ∧ n = T.length ∧ n ≤ m ∧ RL w 0 (.slice a n c) E T
  box : IsB w b 30 #[.int .i64 cap, .slice a n c]
  low : W.heap.size ≤ b
theorem Same.grown {W : World} {q s b : Nat} {cap : Int} {m : Nat} {w : World} {a : Option Addr} {n c : Nat} (h : Same W q s b cap m w a n c) : W.grownBy w none := by
  obtain ⟨E, p, T, _, d, _⟩ := h.ex
  exact d.grown
theorem Same.keep0 {W : World} {q s b : Nat} {cap : Int} {m : Nat} {w w2 : World} {a : Option Addr} {n c : Nat} (h : Same W q s b cap m w a n c) (g : w.grownBy w2 none) : Same W q s b cap m w2 a n c := by
  obtain ⟨E, p, T, h1, h2, h3, h4, h5⟩ := h.ex
  exact ⟨⟨E, p, T, h1, h2.keep0 g, h3, h4, h5.keep0 g⟩, h.box.keep0 g, h.low⟩
theorem Same.next {W : World} {q s b : Nat} {cap : Int} {m : Nat} {w : World} {a : Option Addr} {n c : Nat} (h : Same W q s b cap m w a n c) : Same W q s b cap (m + 1) w a n c := by
  obtain ⟨E, p, T, h1, h2, h3, h4, h5⟩ := h.ex
  exact ⟨⟨E, p, T, by omega, h2, h3, by omega, h5⟩, h.box, h.low⟩
/-- The reference's queue is exchanged. -/
def TR (t : TypeId) : Prop := t = 30
theorem TR_no {n b : Nat} {t : TypeId} {cs : Array Value} (h : KI TR n b (.cells cs t (0, 0))) (hn : t ≠ 30) : False := hn h.2
theorem TS_no2 {n b : Nat} {t : TypeId} {cs : Array Value} (h : KI TS n b (.cells cs t (0, 0))) (h1 : t ≠ 62) (h2 : t ≠ 65) : False := by
  rcases h.2 with e | e
  · exact h1 e
  · exact h2 e
/-- Both sides agree: before the call of the queue, a's are of the reference behind its call. -/
structure Half (W : World) (q s b b2 : Nat) (cap : Int) (w : World) (a : Option Addr) (n c : Nat) (V : Value) (P : World → Option Addr → Nat → Nat → Prop) : Prop where
  box : IsB w b 30 #[.int .i64 cap, V]
  box2 : IsB w b2 30 #[.int .i64 cap, .slice a n c]
  low : W.heap.size ≤ b
  rest : P w a n c
theorem DQ.ref {W : World} {q s : Nat} {cap : Int} {E : Int → Int} {p : Int} {T : List Int} {w w2 : World} (h : DQ W q s cap E p T w) (k : Kt (KI TR W.heap.size) w w2) : DQ W q s cap E p T w2 :=
  h.kept k (Kt.ts_gb h.grown k) (fun _ _ q => TR_no q (by decide)) (fun _ _ q => TR_no q (by decide)) (fun _ _ q => TR_no q (by decide))
/-- The store of a queue of the reference into its variable. -/
theorem ref_put {W w : World} {b : Nat} {cap : Int} {V V2 : Value} (hb : IsB w b 30 #[.int .i64 cap, V]) (hl : W.heap.size ≤ b) :
    Kt (KI TR W.heap.size) w ((w.setCell ⟨b, 0, none⟩ (.int .i64 cap)).setCell ⟨b, 1, none⟩ V2) ∧ IsB ((w.setCell ⟨b, 0, none⟩ (.int .i64 cap)).setCell ⟨b, 1, none⟩ V2) b 30 #[.int .i64 cap, V2] := by
  have k1 : Kt (KI TR W.heap.size) w (w.setCell ⟨b, 0, none⟩ (.int .i64 cap)) := Kt.of_row (gb_set w b 0 _) fun o ho => by
    rw [show w.heap[b]? = _ from hb] at ho; cases ho
    exact ⟨hl, rfl⟩
  have b1 := hb.set 0 (.int .i64 cap)
  have k2 : Kt (KI TR W.heap.size) (w.setCell ⟨b, 0, none⟩ (.int .i64 cap)) ((w.setCell ⟨b, 0, none⟩ (.int .i64 cap)).setCell ⟨b, 1, none⟩ V2) := Kt.of_row (gb_set _ b 1 _) fun o ho => by
    rw [show (w.setCell ⟨b, 0, none⟩ (.int .i64 cap)).heap[b]? = _ from b1] at ho; cases ho
    exact ⟨hl, rfl⟩
  exact ⟨k1.trans k2, b1.set 1 V2⟩
/-- Push on both sides: the reference first. -/
theorem both_push {W w : World} {q s b : Nat} {cap : Int} {m : Nat} {a : Option Addr} {n c : Nat} (h : Same W q s b cap m w a n c) (hm : m ≤ 1000) (key x : Int) :
    ∃ (g : Int) (n2 : Nat) (E2 : Int → Int) (T2 : List Int),
      (∀ w2, w.grownBy w2 none → Calls Try.prog 10 #[.agg #[.int .i64 cap, .slice a n c], .int .i64 key, .int .i64 x] w2 (RetG cap n2 E2 T2 g w2)) ∧
      ∀ w2 a2 c2 V, w.grownBy w2 none → IsB w2 b 30 #[.int .i64 cap, V] → ∀ b2, IsB w2 b2 30 #[.int .i64 cap, .slice a2 n2 c2] → RL w2 0 (.slice a2 n2 c2) E2 T2 →
        Calls Try.prog 11 #[.pointer (some ⟨q, 0, none⟩), .int .i64 key, .int .i64 x] w2 fun e w' => e = .returned (.int .i64 g) ∧
          IsB w' b2 30 #[.int .i64 cap, .slice a2 n2 c2] ∧ IsB w' b 30 #[.int .i64 cap, V] ∧ W.grownBy w' none ∧
          Same W q s b cap (m + 1) ((w'.setCell ⟨b, 0, none⟩ (.int .i64 cap)).setCell ⟨b, 1, none⟩ (.slice a2 n2 c2)) a2 n2 c2 := by
  obtain ⟨E, p, T, h1, h2, h3, h4, h5⟩ := h.ex
  by_cases hf : cap ≤ (n : Int)
  · refine ⟨13, n, E, T, fun w2 g => (rpush_full w2 0 a n c cap E T key x (h5.keep0 g) hf).mono fun _ _ r => RetG.of r h3, ?_⟩
    intro w2 a2 c2 V g hb b2 hb2 hr
    refine (dq_full (h2.keep0 g) key x (by rw [← h3]; exact hf)).mono ?_
    rintro e w' ⟨rfl, g'⟩
    refine ⟨rfl, hb2.keep0 g', hb.keep0 g', gb_trans h2.grown (gb_trans g g'), ?_⟩
    obtain ⟨k, kb⟩ := ref_put (W := W) (V2 := .slice a2 n c2) (hb.keep0 g') h.low
    exact ⟨⟨E, p, T, by omega, (h2.keep0 (gb_trans g g')).ref k, h3, by omega, k.row (hr.keep0 g') fun _ _ q => TR_no q (by decide)⟩, kb, h.low⟩
  · obtain ⟨k1, k2⟩ := codeOf_k key p h2.p0 (by omega)
    have hup : upd E p x p = x := if_pos rfl
    refine ⟨0, n + 1, upd E p x, T ++ [codeOf key p], fun w2 g => ?_, ?_⟩
    · have k := rpush_ok w2 0 a n c cap (upd E p x) T (codeOf key p) ((h5.keep0 g).upd p x fun c hc => by have := h2.lt c hc; omega) h3 hf (by omega)
      rw [k1, k2, hup] at k
      exact k.mono fun _ _ r => RetG.of r (by simp [h3])
    · intro w2 a2 c2 V g hb b2 hb2 hr
      refine (dq_push (h2.keep0 g) key x (by rw [← h3]; omega) (by omega) (by omega)).mono ?_
      rintro e w' ⟨rfl, d', k', -⟩
      have hb' := k'.isb hb fun q => TS_no2 q (by decide) (by decide)
      refine ⟨rfl, k'.isb hb2 fun q => TS_no2 q (by decide) (by decide), hb', d'.grown, ?_⟩
      obtain ⟨k, kb⟩ := ref_put (W := W) (V2 := .slice a2 (n + 1) c2) hb' h.low
      exact ⟨⟨_, _, _, by omega, d'.ref k, by simp [h3], by omega, k.row (k'.row hr fun _ _ q => TS_no2 q (by decide) (by decide)) fun _ _ q => TR_no q (by decide)⟩, kb, h.low⟩
theorem both_pop {W w : World} {q s b : Nat} {cap : Int} {m : Nat} {a : Option Addr} {n c : Nat} (h : Same W q s b cap m w a n c) (hm : m ≤ 1000) :
    ∃ (x y : Int) (ok : Bool) (n2 : Nat) (E2 : Int → Int) (T2 : List Int),
      (∀ w2, w.grownBy w2 none → Calls Try.prog 12 #[.agg #[.int .i64 cap, .slice a n c]] w2 (RetH cap n2 E2 T2 x y ok w2)) ∧
      ∀ w2 a2 c2, Kt (KI TR W.heap.size) w w2 → IsB w2 b 30 #[.int .i64 cap, .slice a2 n2 c2] → RL w2 0 (.slice a2 n2 c2) E2 T2 →
        Calls Try.prog 13 #[.pointer (some ⟨q, 0, none⟩)] w2 fun e w' => e = .returned (.tuple #[.int .i64 x, .int .i64 y, .bool ok]) ∧ Same W q s b cap (m + 1) w' a2 n2 c2 := by
  obtain ⟨E, p, T, h1, h2, h3, h4, h5⟩ := h.ex
  by_cases h0 : 0 < n
  · refine ⟨kC (minT T), E (tC (minT T)), true, n - 1, E, popT T, fun w2 g => (rpop_some w2 0 a n c cap E T (h5.keep0 g) h3 (by omega) h0).mono fun _ _ r => RetH.of r (by rw [popT_len T (by omega)]; omega), ?_⟩
    intro w2 a2 c2 k hb hr
    refine (dq_pop (h2.ref k) (by omega) (by omega)).mono ?_
    rintro e w' ⟨rfl, d', k'⟩
    exact ⟨rfl, ⟨_, _, _, by omega, d', by rw [popT_len T (by omega)]; omega, by omega, k'.row hr fun _ _ q => TS_no2 q (by decide) (by decide)⟩, k'.isb hb fun q => TS_no2 q (by decide) (by decide), h.low⟩
  · obtain rfl : n = 0 := by omega
    have hT : T = [] := List.length_eq_zero_iff.1 h3.symm
    subst hT
    refine ⟨0, 0, false, 0, E, [], fun w2 g => (rpop_none w2 0 a c cap E (h5.keep0 g)).mono fun _ _ r => RetH.of r rfl, ?_⟩
    intro w2 a2 c2 k hb hr
    refine (dq_pop0 (h2.ref k)).mono ?_
    rintro e w' ⟨rfl, g'⟩
    exact ⟨rfl, ⟨_, _, _, by omega, (h2.ref k).keep0 g', rfl, by omega, hr.keep0 g'⟩, hb.keep0 g', h.low⟩
theorem both_peek {W w : World} {q s b : Nat} {cap : Int} {m : Nat} {a : Option Addr} {n c : Nat} (h : Same W q s b cap m w a n c) (hm : m ≤ 1000) :
    ∃ (x y : Int) (ok : Bool),
      (∀ w2, w.grownBy w2 none → Calls Try.prog 14 #[.agg #[.int .i64 cap, .slice a n c]] w2 (RetV (.tuple #[.int .i64 x, .int .i64 y, .bool ok]) w2)) ∧
      ∀ w2, w.grownBy w2 none → Calls Try.prog 15 #[.pointer (some ⟨q, 0, none⟩)] w2 (RetV (.tuple #[.int .i64 x, .int .i64 y, .bool ok]) w2) := by
  obtain ⟨E, p, T, h1, h2, h3, h4, h5⟩ := h.ex
  by_cases h0 : 0 < n
  · exact ⟨_, _, _, fun w2 g => rpeek_some w2 0 a n c cap E T (h5.keep0 g) h3 (by omega) h0, fun w2 g => dq_peek (h2.keep0 g) (by omega)⟩
  · obtain rfl : n = 0 := by omega
    have hT : T = [] := List.length_eq_zero_iff.1 h3.symm
    subst hT
    exact ⟨0, 0, false, fun w2 g => rpeek_none w2 cap a c, fun w2 g => dq_peek0 (h2.keep0 g)⟩
theorem both_list {W w : World} {q s b : Nat} {cap : Int} {m : Nat} {a : Option Addr} {n c : Nat} (h : Same W q s b cap m w a n c) (hm : m ≤ 1000) :
    ∃ (E : Int → Int) (S : List Int), S.length = n ∧
      (∀ w2, w.grownBy w2 none → Calls Try.prog 16 #[.pointer (some ⟨q, 0, none⟩), .int .i64 ((n : Int) + 1)] w2 (RetIn E S n w2)) ∧
      ∀ w2, w.grownBy w2 none → Calls Try.prog 18 #[.agg #[.int .i64 cap, .slice a n c]] w2 (fun e w' => ∃ a2 c2, e = .returned (.slice a2 n c2) ∧ RL w' w2.heap.size (.slice a2 n c2) E S ∧ w2.grownBy w' none) := by
  obtain ⟨E, p, T, h1, h2, h3, h4, h5⟩ := h.ex
  have sl : (allT n T).length = n := by rw [allT_len n T (by omega)]; omega
  refine ⟨E, allT n T, sl, fun w2 g => ?_, fun w2 g => ?_⟩
  · refine (dq_list (h2.keep0 g) (by omega) (n + 1) (by omega)).mono fun _ _ r => ?_
    rw [← h3, List.take_of_length_le (by omega)] at r
    exact r.n sl
  · refine (rall_any w2 0 a n c cap E T (h5.keep0 g) h3 (by omega)).mono ?_
    rintro e w' ⟨V, rfl, r, g'⟩
    obtain ⟨a2, c2, rfl⟩ := r.shape
    rw [sl] at r ⊢
    exact ⟨a2, c2, rfl, r, g'⟩
theorem both_len {W w : World} {q s b : Nat} {cap : Int} {m : Nat} {a : Option Addr} {n c : Nat} (h : Same W q s b cap m w a n c) (w2 : World) (g : w.grownBy w2 none) : Calls Try.prog 19 #[.pointer (some ⟨q, 0, none⟩)] w2 (RetS (.int .i64 n) w2) := by
  obtain ⟨E, p, T, h1, h2, h3, h4, h5⟩ := h.ex
  rw [h3]
  exact dq_len (h2.keep0 g)
end Go.Proofs.Ytmldoeigemippaa
