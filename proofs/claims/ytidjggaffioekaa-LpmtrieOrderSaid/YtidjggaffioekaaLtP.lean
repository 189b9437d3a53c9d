/- Prefixes as lists of bits, their numbers; tries of prefixes as trees, and the lists of what they hold: plain theory, no condition. -/
import Derived.WalkKit
namespace Go.Proofs.Ytidjggaffioekaa
open Go.RowKit
set_option linter.unusedVariables false

/-- The number of w bits that begins with the bits p and ends in zeros. -/
def enc : Nat → List Bool → Nat
  | 0, _ => 0
  | _ + 1, [] => 0
  | w + 1, b :: p => (if b then 2 ^ w else 0) + enc w p
/-- The bits of a number, of which the last w count. -/
def bitsN : Nat → Nat → List Bool
  | 0, _ => []
  | w + 1, v => decide (v / 2 ^ w % 2 = 1) :: bitsN w v
theorem bits_len (w v : Nat) : (bitsN w v).length = w := by
  induction w with
  | zero => rfl
  | succ w ih => simp [bitsN, ih]
theorem enc_nil (w : Nat) : enc w [] = 0 := by cases w <;> rfl
theorem enc_cons (w : Nat) (b : Bool) (p : List Bool) : enc (w + 1) (b :: p) = (if b then 2 ^ w else 0) + enc w p := rfl
theorem enc_lt (w : Nat) (p : List Bool) : enc w p < 2 ^ w := by
  induction w generalizing p with
  | zero => simp [enc]
  | succ w ih =>
    cases p with
    | nil => simp [enc]; exact Nat.two_pow_pos _
    | cons b p =>
      have := ih p
      have e : 2 ^ (w + 1) = 2 ^ w + 2 ^ w := by rw [Nat.pow_succ]; omega
      rw [enc_cons, e]
      cases b <;> simp <;> omega
theorem bits_add (w c v : Nat) : bitsN w (2 ^ w * c + v) = bitsN w v := by
  induction w generalizing c with
  | zero => rfl
  | succ w ih =>
    have e : 2 ^ (w + 1) * c + v = 2 ^ w * (2 * c) + v := by rw [Nat.pow_succ, Nat.mul_assoc]
    have d : (2 ^ w * (2 * c) + v) / 2 ^ w = 2 * c + v / 2 ^ w := by rw [Nat.mul_add_div (Nat.two_pow_pos w)]
    simp only [bitsN]
    rw [e, d, ih, show (2 * c + v / 2 ^ w) % 2 = v / 2 ^ w % 2 by omega]
theorem bits_enc (w : Nat) (p : List Bool) (h : p.length ≤ w) : bitsN w (enc w p) = p ++ List.replicate (w - p.length) false := by
  induction w generalizing p with
  | zero => have : p = [] := List.length_eq_zero_iff.1 (by omega); subst this; rfl
  | succ w ih =>
    cases p with
    | nil =>
      have := ih [] (Nat.zero_le _)
      rw [enc_nil] at this
      simp only [bitsN, enc_nil, this]
      simp [List.replicate_succ]
    | cons b p =>
      have k := ih p (by simpa using h)
      have lt := enc_lt w p
      rw [enc_cons]
      simp only [bitsN]
      cases b
      · simp [k, Nat.div_eq_of_lt lt]
      · have d : (2 ^ w + enc w p) / 2 ^ w = 1 := by
          rw [show 2 ^ w + enc w p = 2 ^ w * 1 + enc w p by omega, Nat.mul_add_div (Nat.two_pow_pos w), Nat.div_eq_of_lt lt]
        have q := bits_add w 1 (enc w p)
        rw [Nat.mul_one] at q
        simp [d, q, k]
theorem enc_inj (w : Nat) {p q : List Bool} (hp : p.length ≤ w) (hq : q.length ≤ w) (hl : p.length = q.length) (h : enc w p = enc w q) : p = q := by
  have a := bits_enc w p hp
  rw [h, bits_enc w q hq, hl] at a
  exact (List.append_inj a (by rw [hl])).1.symm
theorem enc_bits (w v : Nat) : enc w (bitsN w v) = v % 2 ^ w := by
  induction w with
  | zero => simp [enc, Nat.mod_one]
  | succ w ih =>
    simp only [bitsN, enc_cons, ih, decide_eq_true_eq]
    rw [Nat.pow_succ, Nat.mod_mul]
    have : v / 2 ^ w % 2 < 2 := Nat.mod_lt _ (by decide)
    split
    · rename_i h; rw [h]; omega
    · rename_i h; rw [show v / 2 ^ w % 2 = 0 by omega]; omega
theorem enc_bits_lt (w v : Nat) (h : v < 2 ^ w) : enc w (bitsN w v) = v := by rw [enc_bits, Nat.mod_eq_of_lt h]
theorem bits_inj (w : Nat) {u v : Nat} (hu : u < 2 ^ w) (hv : v < 2 ^ w) (h : bitsN w u = bitsN w v) : u = v := by
  rw [← enc_bits_lt w u hu, ← enc_bits_lt w v hv, h]
theorem bits_get (w v i : Nat) (h : i < w) : (bitsN w v).getD i false = decide (v / 2 ^ (w - 1 - i) % 2 = 1) := by
  induction w generalizing i with
  | zero => omega
  | succ w ih =>
    cases i with
    | zero => simp [bitsN]
    | succ i =>
      simp only [bitsN, List.getD_cons_succ]
      rw [ih i (by omega), show w + 1 - 1 - (i + 1) = w - 1 - i by omega]
theorem bits_getEnc (w : Nat) (p : List Bool) (h : p.length ≤ w) (i : Nat) : (bitsN w (enc w p)).getD i false = p.getD i false := by
  rw [bits_enc w p h]
  by_cases hi : i < p.length
  · simp [List.getD_eq_getElem?_getD, List.getElem?_append_left hi]
  · rw [List.getD_eq_getElem?_getD, List.getElem?_append_right (by omega), List.getD_eq_getElem?_getD, List.getElem?_eq_none (by omega : p.length ≤ i), List.getElem?_replicate]
    split <;> rfl
/-- The mask of the first n of w bits. -/
def maskN (n w : Nat) : Nat := 2 ^ w - 2 ^ (w - n)
theorem enc_ones (w n : Nat) (h : n ≤ w) : enc w (List.replicate n true) = maskN n w := by
  induction w generalizing n with
  | zero => have : n = 0 := by omega
            subst this; simp [enc, maskN]
  | succ w ih =>
    cases n with
    | zero => simp [enc_nil, maskN]
    | succ n =>
      rw [List.replicate_succ, enc_cons, ih n (by omega)]
      unfold maskN
      have e : 2 ^ (w + 1) = 2 ^ w + 2 ^ w := by rw [Nat.pow_succ]; omega
      have : 2 ^ (w - n) ≤ 2 ^ w := Nat.pow_le_pow_right (by decide) (by omega)
      rw [show w + 1 - (n + 1) = w - n by omega, e]
      generalize 2 ^ (w - n) = c at *
      generalize 2 ^ w = d at *
      simp only [if_true]; omega
theorem testBit_enc (w : Nat) (p : List Bool) (i : Nat) : (enc w p).testBit i = (decide (i < w) && p.getD (w - 1 - i) false) := by
  by_cases hi : i < w
  · have q := bits_get w (enc w p) (w - 1 - i) (by omega)
    rw [show w - 1 - (w - 1 - i) = i by omega] at q
    rw [Nat.testBit_eq_decide_div_mod_eq, ← q]
    simp only [hi, decide_true, Bool.true_and]
    by_cases hp : p.length ≤ w
    · rw [bits_getEnc w p hp]
    · have t : ∀ (w : Nat) (p : List Bool), enc w p = enc w (p.take w) := by
        intro w
        induction w with
        | zero => intro p; rfl
        | succ w ih => intro p; cases p with
          | nil => rfl
          | cons b p => rw [List.take_succ_cons, enc_cons, enc_cons, ih p]
      rw [t w p, bits_getEnc w _ (by simp; omega)]
      simp [List.getD_eq_getElem?_getD, show w - 1 - i < w by omega]
  · have l := enc_lt w p
    have : 2 ^ w ≤ 2 ^ i := Nat.pow_le_pow_right (by decide) (by omega)
    rw [Nat.testBit_lt_two_pow (by omega)]
    simp [hi]
theorem and_enc (w n v : Nat) (hn : n ≤ w) (hv : v < 2 ^ w) : v &&& maskN n w = enc w ((bitsN w v).take n) := by
  rw [← enc_ones w n hn]
  refine Nat.eq_of_testBit_eq fun i => ?_
  rw [Nat.testBit_and, testBit_enc, testBit_enc]
  have q : v.testBit i = (decide (i < w) && (bitsN w v).getD (w - 1 - i) false) := by
    have := testBit_enc w (bitsN w v) i
    rwa [enc_bits_lt w v hv] at this
  rw [q]
  by_cases hi : i < w
  · simp only [hi, decide_true, Bool.true_and, List.getD_eq_getElem?_getD, List.getElem?_replicate, List.getElem?_take]
    split <;> simp
  · simp [hi]
/-- The order in which prefixes are listed. -/
def PLt (w : Nat) (p q : List Bool) : Prop := enc w p < enc w q ∨ enc w p = enc w q ∧ p.length < q.length
theorem plt_irr (w : Nat) (p : List Bool) : ¬ PLt w p p := by unfold PLt; omega
theorem plt_trans (w : Nat) {p q r : List Bool} (h : PLt w p q) (k : PLt w q r) : PLt w p r := by unfold PLt at *; omega
theorem plt_asym (w : Nat) {p q : List Bool} (h : PLt w p q) : ¬ PLt w q p := by unfold PLt at *; omega
theorem plt_tri (w : Nat) {p q : List Bool} (hp : p.length ≤ w) (hq : q.length ≤ w) (hn : p ≠ q) (h : ¬ PLt w p q) : PLt w q p := by
  unfold PLt at *
  by_cases e : enc w p = enc w q
  · have : p.length ≠ q.length := fun l => hn (enc_inj w hp hq l e)
    omega
  · omega
theorem enc_pre (w : Nat) (p s : List Bool) : enc w p ≤ enc w (p ++ s) := by
  induction w generalizing p with
  | zero => simp [enc]
  | succ w ih =>
    cases p with
    | nil => rw [enc_nil]; exact Nat.zero_le _
    | cons b p => have := ih p; rw [List.cons_append, enc_cons, enc_cons]; omega
theorem plt_pre (w : Nat) {p q : List Bool} (h : p <+: q) (hl : p.length < q.length) : PLt w p q := by
  obtain ⟨s, rfl⟩ := h
  have := enc_pre w p s
  unfold PLt; omega
theorem enc_fork (w : Nat) (p s t : List Bool) (hs : (p ++ [false] ++ s).length ≤ w) (ht : (p ++ [true] ++ t).length ≤ w) : enc w (p ++ [false] ++ s) < enc w (p ++ [true] ++ t) := by
  induction w generalizing p with
  | zero => simp at ht
  | succ w ih =>
    cases p with
    | nil =>
      have := enc_lt w s
      simp only [List.nil_append, List.cons_append]
      rw [enc_cons, enc_cons]
      simp; omega
    | cons b p =>
      have := ih p (by simp at hs ⊢; omega) (by simp at ht ⊢; omega)
      simp only [List.cons_append] at *
      rw [enc_cons, enc_cons]
      omega
theorem plt_fork (w : Nat) {p q r : List Bool} (h : p ++ [false] <+: q) (k : p ++ [true] <+: r) (hq : q.length ≤ w) (hr : r.length ≤ w) : PLt w q r := by
  obtain ⟨s, rfl⟩ := h
  obtain ⟨t, rfl⟩ := k
  exact .inl (enc_fork w p s t hq hr)
theorem fork_ne {p q : List Bool} {b : Bool} (h : p ++ [b] <+: q) (k : p ++ [!b] <+: q) : False := by
  obtain ⟨s, rfl⟩ := h
  obtain ⟨t, k⟩ := k
  rw [List.append_assoc, List.append_assoc] at k
  have := List.append_cancel_left k
  simp at this
/-- A prefix that goes on behind p goes on with its bit there. -/
theorem pre_next {p q : List Bool} (h : p <+: q) (hl : p.length < q.length) : p ++ [q.getD p.length false] <+: q := by
  obtain ⟨s, rfl⟩ := h
  cases s with
  | nil => simp at hl
  | cons b s => exact ⟨s, by simp [List.getD_eq_getElem?_getD]⟩

/-- A trie: b is the block of a node, p its prefix, st whether it is stored, x its value. -/
inductive Tr where
  | nil : Tr
  | node (b : Nat) (p : List Bool) (st : Bool) (x : Int) (l r : Tr) : Tr
def blks : Tr → List Nat
  | .nil => []
  | .node b _ _ _ l r => b :: (blks l ++ blks r)
/-- What is stored, in order. -/
def ents : Tr → List (List Bool × Int)
  | .nil => []
  | .node _ p st x l r => (if st then [(p, x)] else []) ++ (ents l ++ ents r)
/-- All prefixes begin with q, and the bit behind a node's prefix leads to its child. -/
def Ok (w : Nat) : List Bool → Tr → Prop
  | _, .nil => True
  | q, .node _ p _ _ l r => q <+: p ∧ p.length ≤ w ∧ Ok w (p ++ [false]) l ∧ Ok w (p ++ [true]) r
theorem Ok.weak {w : Nat} {q q2 : List Bool} (h : q2 <+: q) : ∀ {T : Tr}, Ok w q T → Ok w q2 T
  | .nil, _ => trivial
  | .node .., k => ⟨h.trans k.1, k.2.1, k.2.2.1, k.2.2.2⟩
theorem Ok.ent {w : Nat} : ∀ {T : Tr} {q : List Bool}, Ok w q T → ∀ e ∈ ents T, q <+: e.1 ∧ e.1.length ≤ w
  | .nil, _, _, e, he => by simp [ents] at he
  | .node b p st x l r, q, h, e, he => by
    simp only [ents, List.mem_append] at he
    rcases he with he | he | he
    · cases st <;> simp at he
      subst he; exact ⟨h.1, h.2.1⟩
    · have := Ok.ent h.2.2.1 e he
      exact ⟨(h.1.trans (List.prefix_append _ _)).trans this.1, this.2⟩
    · have := Ok.ent h.2.2.2 e he
      exact ⟨(h.1.trans (List.prefix_append _ _)).trans this.1, this.2⟩
/-- What is stored is in ascending order. -/
theorem Ok.sorted {w : Nat} : ∀ {T : Tr} {q : List Bool}, Ok w q T → (ents T).Pairwise fun a b => PLt w a.1 b.1
  | .nil, _, _ => List.Pairwise.nil
  | .node b p st x l r, q, h => by
    have kl := fun e he => Ok.ent h.2.2.1 e he
    have kr := fun e he => Ok.ent h.2.2.2 e he
    have lr : (ents l ++ ents r).Pairwise fun a b => PLt w a.1 b.1 := by
      rw [List.pairwise_append]
      exact ⟨Ok.sorted h.2.2.1, Ok.sorted h.2.2.2, fun a ha b hb => plt_fork w (kl a ha).1 (kr b hb).1 (kl a ha).2 (kr b hb).2⟩
    simp only [ents]
    cases st
    · simpa using lr
    · simp only [if_pos, List.cons_append, List.nil_append]
      refine List.Pairwise.cons (fun e he => ?_) lr
      rcases List.mem_append.1 he with he | he
      · have := (kl e he).1; exact plt_pre w ((List.prefix_append _ _).trans this) (by have := this.length_le; simp at this ⊢; omega)
      · have := (kr e he).1; exact plt_pre w ((List.prefix_append _ _).trans this) (by have := this.length_le; simp at this ⊢; omega)
def kid (c : Bool) (l r : Tr) : Tr := if c then r else l
/-- The way to the place of p's node. -/
def desc (p : List Bool) : Tr → List Bool
  | .nil => []
  | .node _ q _ _ l r => if q.length < p.length ∧ q <+: p then (if p.getD q.length false then true :: desc p r else false :: desc p l) else []
def sub : Tr → List Bool → Tr
  | T, [] => T
  | .nil, _ :: _ => .nil
  | .node _ _ _ _ l r, c :: s => if c then sub r s else sub l s
def put : Tr → List Bool → Tr → Tr
  | _, [], N => N
  | .nil, _ :: _, _ => .nil
  | .node b q st x l r, c :: s, N => if c then .node b q st x l (put r s N) else .node b q st x (put l s N) r
/-- A way stays inside of the trie. -/
def inT : Tr → List Bool → Prop
  | _, [] => True
  | .nil, _ :: _ => False
  | .node _ _ _ _ l r, c :: s => if c then inT r s else inT l s
theorem desc_in (p : List Bool) : ∀ T : Tr, inT T (desc p T)
  | .nil => trivial
  | .node b q st x l r => by
    have hl := desc_in p l
    have hr := desc_in p r
    simp only [desc]
    split
    · split <;> simpa [inT]
    · trivial
/-- Where the way ends there is no node, or one whose prefix p does not go beyond. -/
def Halt (p : List Bool) : Tr → Prop
  | .nil => True
  | .node _ q _ _ _ _ => ¬ (q.length < p.length ∧ q <+: p)
theorem desc_halt (p : List Bool) : ∀ T : Tr, Halt p (sub T (desc p T))
  | .nil => trivial
  | .node b q st x l r => by
    have hl := desc_halt p l
    have hr := desc_halt p r
    simp only [desc]
    split
    · split <;> simpa [sub]
    · rename_i h; simpa [sub, Halt] using h
theorem put_ents : ∀ (T : Tr) (s : List Bool), inT T s → ∃ A B, ents T = A ++ ents (sub T s) ++ B ∧ ∀ N, ents (put T s N) = A ++ ents N ++ B
  | T, [], _ => ⟨[], [], by simp [sub], fun N => by cases T <;> simp [put]⟩
  | .nil, _ :: _, h => absurd h (by simp [inT])
  | .node b q st x l r, c :: s, h => by
    cases c
    · obtain ⟨A, B, h1, h2⟩ := put_ents l s (by simpa [inT] using h)
      exact ⟨(if st then [(q, x)] else []) ++ A, B ++ ents r, by simp [ents, sub, h1], fun N => by simp [put, ents, h2]⟩
    · obtain ⟨A, B, h1, h2⟩ := put_ents r s (by simpa [inT] using h)
      exact ⟨(if st then [(q, x)] else []) ++ (ents l ++ A), B, by simp [ents, sub, h1], fun N => by simp [put, ents, h2]⟩
theorem put_ok {w : Nat} (p : List Bool) : ∀ (T : Tr) (q : List Bool), Ok w q T → q <+: p → ∃ q2, q2 <+: p ∧ Ok w q2 (sub T (desc p T)) ∧ ∀ N, Ok w q2 N → Ok w q (put T (desc p T) N)
  | .nil, q, _, hq => ⟨q, hq, trivial, fun N h => h⟩
  | .node b r st x l m, q, h, hq => by
    simp only [desc]
    split
    · rename_i hc
      have nx := pre_next hc.2 hc.1
      cases hb : p.getD r.length false
      · rw [hb] at nx
        obtain ⟨q2, k1, k2, k3⟩ := put_ok p l _ h.2.2.1 nx
        exact ⟨q2, k1, by simpa [sub] using k2, fun N hN => by simpa [put, Ok] using ⟨h.1, h.2.1, k3 N hN, h.2.2.2⟩⟩
      · rw [hb] at nx
        obtain ⟨q2, k1, k2, k3⟩ := put_ok p m _ h.2.2.2 nx
        exact ⟨q2, k1, by simpa [sub] using k2, fun N hN => by simpa [put, Ok] using ⟨h.1, h.2.1, h.2.2.1, k3 N hN⟩⟩
    · exact ⟨q, hq, h, fun N hN => hN⟩
/-- What is stored with prefix p is at the end of the way. -/
theorem desc_mem {w : Nat} (p : List Bool) (x : Int) : ∀ (T : Tr) (q : List Bool), Ok w q T → ((p, x) ∈ ents T ↔ (p, x) ∈ ents (sub T (desc p T)))
  | .nil, q, _ => Iff.rfl
  | .node b r st y l m, q, h => by
    simp only [desc]
    split
    · rename_i hc
      have nx := pre_next hc.2 hc.1
      have ne : r ≠ p := fun e => by rw [e] at hc; omega
      cases hb : p.getD r.length false
      · rw [hb] at nx
        have il := desc_mem p x l _ h.2.2.1
        have nr : (p, x) ∉ ents m := fun hm => fork_ne (b := false) nx (by simpa using (Ok.ent h.2.2.2 _ hm).1)
        simp only [Bool.false_eq_true, if_false, sub]
        rw [← il]
        simp only [ents, List.mem_append, nr, or_false]
        cases st <;> simp [Ne.symm ne]
      · rw [hb] at nx
        have ir := desc_mem p x m _ h.2.2.2
        have nl : (p, x) ∉ ents l := fun hm => fork_ne (b := true) nx (by simpa using (Ok.ent h.2.2.1 _ hm).1)
        simp only [if_true, sub]
        rw [← ir]
        simp only [ents, List.mem_append, nl, false_or]
        cases st <;> simp [Ne.symm ne]
    · exact Iff.rfl
/-- The value of a stored prefix. -/
def getT (p : List Bool) (T : Tr) : Option Int := match sub T (desc p T) with
  | .nil => none
  | .node _ q st x _ _ => if q = p ∧ st = true then some x else none
theorem halt_mem {w : Nat} {p q : List Bool} {x : Int} : ∀ {T : Tr}, Ok w q T → Halt p T → ((p, x) ∈ ents T ↔ (match T with | .nil => none | .node _ q st x _ _ => if q = p ∧ st = true then some x else none) = some x)
  | .nil, _, _ => by simp [ents]
  | .node b r st y l m, h, hh => by
    have nl : ∀ x, (p, x) ∉ ents l := fun x hm => by
      have := (Ok.ent h.2.2.1 _ hm).1
      exact hh ⟨by have := this.length_le; simp at this; omega, (List.prefix_append _ _).trans this⟩
    have nr : ∀ x, (p, x) ∉ ents m := fun x hm => by
      have := (Ok.ent h.2.2.2 _ hm).1
      exact hh ⟨by have := this.length_le; simp at this; omega, (List.prefix_append _ _).trans this⟩
    simp only [ents, List.mem_append, nl, nr, or_false]
    cases st
    · simp
    · by_cases e : r = p
      · subst e; simp [eq_comm]
      · simp [e, Ne.symm e]
theorem get_mem {w : Nat} (p : List Bool) (x : Int) (T : Tr) (h : Ok w [] T) : (p, x) ∈ ents T ↔ getT p T = some x := by
  rw [desc_mem p x T [] h]
  obtain ⟨q2, _, k, _⟩ := put_ok p T [] h (List.nil_prefix)
  exact halt_mem k (desc_halt p T)
end Go.Proofs.Ytidjggaffioekaa
