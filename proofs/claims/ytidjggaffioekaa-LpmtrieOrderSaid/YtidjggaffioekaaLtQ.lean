/- Insertion into tries, deletion, the longest stored prefix, against lists in ascending order: plain theory, no condition. -/
import Derived.Test.YtidjggaffioekaaLtP
namespace Go.Proofs.Ytidjggaffioekaa
open Go.RowKit
set_option linter.unusedVariables false

abbrev Ent := List Bool × Int
def Srt (w : Nat) (L : List Ent) : Prop := L.Pairwise fun a b => PLt w a.1 b.1
def Few (w : Nat) (L : List Ent) : Prop := ∀ e ∈ L, e.1.length ≤ w
/-- Two ascending lists of the same members are the same. -/
theorem srt_eq (w : Nat) : ∀ {A B : List Ent}, Srt w A → Srt w B → (∀ e, e ∈ A ↔ e ∈ B) → A = B
  | [], [], _, _, _ => rfl
  | [], b :: B, _, _, h => absurd ((h b).2 List.mem_cons_self) (by simp)
  | a :: A, [], _, _, h => absurd ((h a).1 List.mem_cons_self) (by simp)
  | a :: A, b :: B, ha, hb, h => by
    have a1 := List.pairwise_cons.1 ha
    have b1 := List.pairwise_cons.1 hb
    have e : a = b := by
      rcases List.mem_cons.1 ((h a).1 List.mem_cons_self) with e | e
      · exact e
      · rcases List.mem_cons.1 ((h b).2 List.mem_cons_self) with f | f
        · exact f.symm
        · exact absurd (a1.1 b f) (plt_asym w (b1.1 a e))
    subst e
    rw [srt_eq w a1.2 b1.2 fun e => ?_]
    have k := h e
    rw [List.mem_cons, List.mem_cons] at k
    constructor
    · intro he
      rcases k.1 (.inr he) with q | q
      · subst q; exact absurd (a1.1 e he) (plt_irr w _)
      · exact q
    · intro he
      rcases k.2 (.inr he) with q | q
      · subst q; exact absurd (b1.1 e he) (plt_irr w _)
      · exact q
/-- Where an entry goes: behind all smaller ones at the front. -/
def insL (w : Nat) (e : Ent) : List Ent → List Ent
  | [] => [e]
  | a :: A => if enc w a.1 < enc w e.1 ∨ enc w a.1 = enc w e.1 ∧ a.1.length < e.1.length then a :: insL w e A else e :: a :: A
/-- The place of an entry. -/
def insAt (w : Nat) (e : Ent) : List Ent → Nat
  | [] => 0
  | a :: A => if enc w a.1 < enc w e.1 ∨ enc w a.1 = enc w e.1 ∧ a.1.length < e.1.length then insAt w e A + 1 else 0
theorem insL_at (w : Nat) (e : Ent) (L : List Ent) : insL w e L = L.take (insAt w e L) ++ e :: L.drop (insAt w e L) := by
  induction L with
  | nil => rfl
  | cons a A ih =>
    simp only [insL, insAt]
    split
    · simp [ih]
    · simp
theorem insL_mem (w : Nat) (e f : Ent) (L : List Ent) : f ∈ insL w e L ↔ f = e ∨ f ∈ L := by
  induction L with
  | nil => simp [insL]
  | cons a A ih =>
    simp only [insL]
    split
    · simp only [List.mem_cons, ih]; constructor
      · rintro (h | h | h) <;> simp [h]
      · rintro (h | h | h) <;> simp [h]
    · simp
theorem insL_srt {w : Nat} {e : Ent} : ∀ {L : List Ent}, Srt w L → Few w L → e.1.length ≤ w → (∀ f ∈ L, f.1 ≠ e.1) → Srt w (insL w e L)
  | [], _, _, _, _ => by simp [insL, Srt]
  | a :: A, h, hf, he, hn => by
    have h1 := List.pairwise_cons.1 h
    simp only [insL]
    split
    · rename_i hlt
      refine List.Pairwise.cons (fun f hf2 => ?_) (insL_srt h1.2 (fun f q => hf f (List.mem_cons_of_mem _ q)) he fun f q => hn f (List.mem_cons_of_mem _ q))
      rcases (insL_mem w e f A).1 hf2 with rfl | q
      · exact hlt
      · exact h1.1 f q
    · rename_i hlt
      have ea := plt_tri w (hf a List.mem_cons_self) he (hn a List.mem_cons_self) hlt
      refine List.Pairwise.cons (fun f hf2 => ?_) h
      rcases List.mem_cons.1 hf2 with rfl | q
      · exact ea
      · exact plt_trans w ea (h1.1 f q)
/-- What is left without prefix p. -/
def delL (p : List Bool) (L : List Ent) : List Ent := L.filter fun e => decide (e.1 ≠ p)
theorem delL_srt {w : Nat} {p : List Bool} {L : List Ent} (h : Srt w L) : Srt w (delL p L) := h.filter _
/-- The place of prefix p. -/
def findL (p : List Bool) (L : List Ent) : Nat := L.findIdx fun e => decide (e.1 = p)
theorem srt_nodup {w : Nat} {L : List Ent} (h : Srt w L) {i j : Nat} (hi : i < L.length) (hj : j < L.length) (e : (L[i]).1 = (L[j]).1) : i = j := by
  rcases Nat.lt_trichotomy i j with k | k | k
  · have := List.pairwise_iff_getElem.1 h i j hi hj k
    rw [e] at this; exact absurd this (plt_irr w _)
  · exact k
  · have := List.pairwise_iff_getElem.1 h j i hj hi k
    rw [e] at this; exact absurd this (plt_irr w _)
theorem srt_val {w : Nat} {L : List Ent} (h : Srt w L) {p : List Bool} {x y : Int} (hx : (p, x) ∈ L) (hy : (p, y) ∈ L) : x = y := by
  obtain ⟨i, hi, ei⟩ := List.getElem_of_mem hx
  obtain ⟨j, hj, ej⟩ := List.getElem_of_mem hy
  have := srt_nodup h hi hj (by rw [ei, ej])
  subst this
  rw [ei] at ej
  exact (Prod.mk.inj ej).2
theorem delL_at {w : Nat} {p : List Bool} {L : List Ent} (h : Srt w L) {i : Nat} (hi : i < L.length) (he : (L[i]).1 = p) : L.take i ++ L.drop (i + 1) = delL p L := by
  induction L generalizing i with
  | nil => simp at hi
  | cons a A ih =>
    have h1 := List.pairwise_cons.1 h
    cases i with
    | zero =>
      have ea : a.1 = p := he
      have : A.filter (fun e => decide (e.1 ≠ p)) = A := List.filter_eq_self.2 fun e q => by
        have := h1.1 e q
        rw [ea] at this
        exact decide_eq_true fun k => by rw [k] at this; exact plt_irr w _ this
      rw [delL, List.filter_cons_of_neg (by simp [ea]), this]; rfl
    | succ i =>
      have hi2 : i < A.length := by simpa using hi
      have he2 : (A[i]).1 = p := by simpa using he
      have na : a.1 ≠ p := fun k => by
        have := h1.1 _ (List.getElem_mem hi2)
        rw [he2, k] at this; exact plt_irr w _ this
      have := ih h1.2 hi2 he2
      unfold delL at this ⊢
      rw [List.filter_cons_of_pos (by simpa using na), ← this]; simp

/-- Both begin with it, and it is the longest. -/
def lcp : List Bool → List Bool → List Bool
  | a :: p, b :: q => if a = b then a :: lcp p q else []
  | _, _ => []
theorem lcp_left : ∀ p q : List Bool, lcp p q <+: p
  | [], _ => by simp [lcp]
  | _ :: _, [] => by simp [lcp]
  | a :: p, b :: q => by
    simp only [lcp]; split
    · exact List.cons_prefix_cons.2 ⟨rfl, lcp_left p q⟩
    · exact List.nil_prefix
theorem lcp_right : ∀ p q : List Bool, lcp p q <+: q
  | [], _ => by simp [lcp]
  | _ :: _, [] => by simp [lcp]
  | a :: p, b :: q => by
    simp only [lcp]; split
    · rename_i h; subst h; exact List.cons_prefix_cons.2 ⟨rfl, lcp_right p q⟩
    · exact List.nil_prefix
theorem lcp_next : ∀ p q : List Bool, (lcp p q).length < p.length → (lcp p q).length < q.length → p.getD (lcp p q).length false ≠ q.getD (lcp p q).length false
  | [], _, h, _ => by simp at h
  | _ :: _, [], _, h => by simp at h
  | a :: p, b :: q, h, k => by
    simp only [lcp] at *
    split at h
    · rename_i e
      rw [if_pos e] at k ⊢
      simp only [List.length_cons, List.getD_cons_succ]
      exact lcp_next p q (by simpa using h) (by simpa using k)
    · rename_i e
      rw [if_neg e] at k ⊢
      simpa using e
theorem lcp_pre : ∀ s p q : List Bool, s <+: p → s <+: q → s <+: lcp p q
  | [], _, _, _, _ => List.nil_prefix
  | a :: s, p, q, hp, hq => by
    obtain ⟨p, rfl⟩ := hp
    obtain ⟨q, rfl⟩ := hq
    simp only [List.cons_append, lcp, if_true]
    exact List.cons_prefix_cons.2 ⟨rfl, lcp_pre s _ _ (List.prefix_append _ _) (List.prefix_append _ _)⟩
/-- A node made at the place of p, where B hangs: a is its block, f a fork's. -/
def graft (a f : Nat) (p : List Bool) : Tr → Tr
  | .nil => .node a p false 0 .nil .nil
  | .node b q st x l r =>
    if q = p then .node b q st x l r
    else if lcp p q = p then (if q.getD p.length false then .node a p false 0 .nil (.node b q st x l r) else .node a p false 0 (.node b q st x l r) .nil)
    else (if p.getD (lcp p q).length false then .node f (lcp p q) false 0 (.node b q st x l r) (.node a p false 0 .nil .nil) else .node f (lcp p q) false 0 (.node a p false 0 .nil .nil) (.node b q st x l r))
theorem graft_ents (a f : Nat) (p : List Bool) (B : Tr) : ents (graft a f p B) = ents B := by
  cases B with
  | nil => rfl
  | node b q st x l r =>
    simp only [graft]
    split
    · rfl
    · split <;> split <;> simp [ents]
theorem graft_ok {w : Nat} (a f : Nat) {p s : List Bool} {B : Tr} (hs : s <+: p) (hp : p.length ≤ w) (h : Ok w s B) (hh : Halt p B) : Ok w s (graft a f p B) := by
  cases B with
  | nil => exact ⟨hs, hp, trivial, trivial⟩
  | node b q st x l r =>
    simp only [graft]
    split
    · exact h
    · rename_i hq
      have L1 := lcp_left p q
      have L2 := lcp_right p q
      have LL := lcp_next p q
      have L3 := lcp_pre s p q hs h.1
      split
      · rename_i e
        rw [e] at L2
        have nx := pre_next L2 (by
          have := L2.length_le
          rcases Nat.lt_or_ge p.length q.length with k | k
          · exact k
          · exact absurd (L2.eq_of_length (by omega)).symm hq)
        cases hb : q.getD p.length false
        · rw [hb] at nx; exact ⟨hs, hp, ⟨nx, h.2⟩, trivial⟩
        · rw [hb] at nx; exact ⟨hs, hp, trivial, nx, h.2⟩
      · rename_i e
        have k1 : (lcp p q).length < p.length := by
          have := L1.length_le
          rcases Nat.lt_or_ge (lcp p q).length p.length with k | k
          · exact k
          · exact absurd (L1.eq_of_length (by omega)) e
        have k2 : (lcp p q).length < q.length := by
          have := L2.length_le
          rcases Nat.lt_or_ge (lcp p q).length q.length with k | k
          · exact k
          · have e2 := L2.eq_of_length (by omega)
            rw [e2] at L1 k1
            exact absurd ⟨k1, L1⟩ hh
        have n1 := pre_next L1 k1
        have n2 := pre_next L2 k2
        have ne := LL k1 k2
        have kl : (lcp p q).length ≤ w := by omega
        cases hb : p.getD (lcp p q).length false
        · have hc : q.getD (lcp p q).length false = true := by cases hc : q.getD (lcp p q).length false with | true => rfl | false => rw [hb, hc] at ne; exact absurd rfl ne
          rw [hb] at n1; rw [hc] at n2
          exact ⟨L3, kl, ⟨n1, hp, trivial, trivial⟩, n2, h.2⟩
        · have hc : q.getD (lcp p q).length false = false := by cases hc : q.getD (lcp p q).length false with | false => rfl | true => rw [hb, hc] at ne; exact absurd rfl ne
          rw [hb] at n1; rw [hc] at n2
          exact ⟨L3, kl, ⟨n2, h.2⟩, n1, hp, trivial, trivial⟩
/-- The block of p's node behind graft. -/
def gblk (a : Nat) (p : List Bool) : Tr → Nat
  | .nil => a
  | .node b q _ _ _ _ => if q = p then b else a
/-- Whether it is stored there. -/
def gst (p : List Bool) : Tr → Bool
  | .nil => false
  | .node _ q st _ _ _ => decide (q = p) && st
/-- Graft, and p's node stored. -/
def keep (a f : Nat) (p : List Bool) (x : Int) : Tr → Tr
  | .nil => .node a p true x .nil .nil
  | .node b q st y l r =>
    if q = p then .node b q true x l r
    else if lcp p q = p then (if q.getD p.length false then .node a p true x .nil (.node b q st y l r) else .node a p true x (.node b q st y l r) .nil)
    else (if p.getD (lcp p q).length false then .node f (lcp p q) false 0 (.node b q st y l r) (.node a p true x .nil .nil) else .node f (lcp p q) false 0 (.node a p true x .nil .nil) (.node b q st y l r))
theorem keep_ok {w : Nat} (a f : Nat) {p s : List Bool} {B : Tr} (x : Int) (hs : s <+: p) (hp : p.length ≤ w) (h : Ok w s B) (hh : Halt p B) : Ok w s (keep a f p x B) := by
  have k := graft_ok a f hs hp h hh
  cases B with
  | nil => exact k
  | node b q st y l r =>
    simp only [graft, keep] at k ⊢
    split
    · rename_i e; rw [if_pos e] at k; exact k
    · rename_i e
      rw [if_neg e] at k
      split
      · rename_i e2
        rw [if_pos e2] at k
        split <;> (rename_i e3; first | rw [if_pos e3] at k | rw [if_neg e3] at k) <;> exact k
      · rename_i e2
        rw [if_neg e2] at k
        split <;> (rename_i e3; first | rw [if_pos e3] at k | rw [if_neg e3] at k) <;> exact k
theorem keep_mem (a f : Nat) (p : List Bool) (x : Int) (B : Tr) (hn : gst p B = false) (e : Ent) : e ∈ ents (keep a f p x B) ↔ e = (p, x) ∨ e ∈ ents B := by
  cases B with
  | nil => simp [keep, ents]
  | node b q st y l r =>
    simp only [keep]
    split
    · rename_i h
      have : st = false := by simpa [gst, h] using hn
      subst this h
      simp [ents]
    · split <;> split <;> simp only [ents, Bool.false_eq_true, if_false, if_true, List.nil_append, List.append_nil, List.mem_append, List.mem_cons, List.not_mem_nil, or_false] <;> constructor <;> (rintro (h | h) <;> first | exact .inl h | exact .inr h)
/-- The trie with p stored. -/
def insT (a f : Nat) (p : List Bool) (x : Int) (T : Tr) : Tr := put T (desc p T) (keep a f p x (sub T (desc p T)))
theorem getT_gst (p : List Bool) (T : Tr) : gst p (sub T (desc p T)) = (getT p T).isSome := by
  unfold getT
  cases sub T (desc p T) with
  | nil => rfl
  | node b q st x l r =>
    simp only [gst]
    by_cases h : q = p
    · cases st <;> simp [h]
    · simp [h]
theorem insT_ok {w : Nat} {a f : Nat} {p : List Bool} {x : Int} {T : Tr} (h : Ok w [] T) (hp : p.length ≤ w) : Ok w [] (insT a f p x T) := by
  obtain ⟨q2, k1, k2, k3⟩ := put_ok p T [] h List.nil_prefix
  exact k3 _ (keep_ok a f x k1 hp k2 (desc_halt p T))
theorem insT_ents {w : Nat} {a f : Nat} {p : List Bool} {x : Int} {T : Tr} (h : Ok w [] T) (hp : p.length ≤ w) (hn : getT p T = none) : ents (insT a f p x T) = insL w (p, x) (ents T) := by
  have hn2 : gst p (sub T (desc p T)) = false := by rw [getT_gst, hn]; rfl
  have few : Few w (ents T) := fun e he => (Ok.ent h e he).2
  have no : ∀ f ∈ ents T, f.1 ≠ p := by
    rintro ⟨q, y⟩ hf e
    subst e
    have := (get_mem _ y T h).1 hf
    simp at this hn; rw [hn] at this; cases this
  refine srt_eq w (insT_ok h hp).sorted (insL_srt h.sorted few hp no) fun e => ?_
  obtain ⟨A, B, h1, h2⟩ := put_ents T (desc p T) (desc_in p T)
  rw [insL_mem]
  unfold insT
  rw [h2, h1]
  simp only [List.mem_append, keep_mem a f p x _ hn2 e]
  constructor
  · rintro ((h | h | h) | h) <;> simp [h]
  · rintro (h | (h | h) | h) <;> simp [h]
/-- A node, or what is below it, if it is needed no more. -/
def need (b : Nat) (p : List Bool) (st : Bool) (x : Int) : Tr → Tr → Tr
  | .nil, .nil => if st then .node b p st x .nil .nil else .nil
  | .nil, .node b2 p2 s2 x2 l2 r2 => if st then .node b p st x .nil (.node b2 p2 s2 x2 l2 r2) else .node b2 p2 s2 x2 l2 r2
  | .node b2 p2 s2 x2 l2 r2, .nil => if st then .node b p st x (.node b2 p2 s2 x2 l2 r2) .nil else .node b2 p2 s2 x2 l2 r2
  | .node b2 p2 s2 x2 l2 r2, .node b3 p3 s3 x3 l3 r3 => .node b p st x (.node b2 p2 s2 x2 l2 r2) (.node b3 p3 s3 x3 l3 r3)
theorem need_ents (b : Nat) (p : List Bool) (st : Bool) (x : Int) (l r : Tr) : ents (need b p st x l r) = ents (.node b p st x l r) := by
  cases l <;> cases r <;> cases st <;> simp [need, ents]
theorem need_ok {w : Nat} {b : Nat} {p q : List Bool} {st : Bool} {x : Int} {l r : Tr} (h : Ok w q (.node b p st x l r)) : Ok w q (need b p st x l r) := by
  cases l with
  | nil => cases r with
    | nil => cases st <;> first | trivial | exact h
    | node b2 p2 s2 x2 l2 r2 =>
      cases st
      · exact (Ok.weak (h.1.trans (List.prefix_append _ _)) h.2.2.2)
      · exact h
  | node b2 p2 s2 x2 l2 r2 => cases r with
    | nil =>
      cases st
      · exact (Ok.weak (h.1.trans (List.prefix_append _ _)) h.2.2.1)
      · exact h
    | node b3 p3 s3 x3 l3 r3 => exact h
/-- The trie with p stored no more. -/
def delT (p : List Bool) : Tr → Tr
  | .nil => .nil
  | .node b q st x l r => if q = p then need b q false x l r else if p.getD q.length false then need b q st x l (delT p r) else need b q st x (delT p l) r
/-- p's node is in the trie. -/
def hasP (p : List Bool) : Tr → Prop
  | .nil => False
  | .node _ q _ _ l r => if q = p then True else if p.getD q.length false then hasP p r else hasP p l
theorem mem_has {w : Nat} {p : List Bool} {x : Int} : ∀ {T : Tr} {s : List Bool}, Ok w s T → (p, x) ∈ ents T → hasP p T
  | .nil, _, _, h => by simp [ents] at h
  | .node b q st y l r, s, h, hm => by
    simp only [hasP]
    split
    · trivial
    · rename_i hq
      simp only [ents, List.mem_append] at hm
      rcases hm with hm | hm | hm
      · cases st <;> simp at hm
        exact absurd hm.1.symm hq
      · have k := (Ok.ent h.2.2.1 _ hm).1
        obtain ⟨t, k⟩ := k
        have : p.getD q.length false = false := by rw [← show q ++ [false] ++ t = p from k]; simp [List.getD_eq_getElem?_getD]
        simp only [this, Bool.false_eq_true, if_false]
        exact mem_has h.2.2.1 hm
      · have k := (Ok.ent h.2.2.2 _ hm).1
        obtain ⟨t, k⟩ := k
        have : p.getD q.length false = true := by rw [← show q ++ [true] ++ t = p from k]; simp [List.getD_eq_getElem?_getD]
        simp only [this, if_true]
        exact mem_has h.2.2.2 hm
theorem delT_ok {w : Nat} {p : List Bool} : ∀ {T : Tr} {s : List Bool}, Ok w s T → Ok w s (delT p T)
  | .nil, _, _ => trivial
  | .node b q st x l r, s, h => by
    simp only [delT]
    split
    · exact need_ok h
    · split
      · exact need_ok ⟨h.1, h.2.1, h.2.2.1, delT_ok h.2.2.2⟩
      · exact need_ok ⟨h.1, h.2.1, delT_ok h.2.2.1, h.2.2.2⟩
theorem del_far {p : List Bool} {L : List Ent} (h : ∀ e ∈ L, e.1 ≠ p) : delL p L = L := List.filter_eq_self.2 fun e he => decide_eq_true (h e he)
theorem delL_app (p : List Bool) (A B : List Ent) : delL p (A ++ B) = delL p A ++ delL p B := List.filter_append ..
theorem delT_ents {w : Nat} {p : List Bool} : ∀ {T : Tr} {s : List Bool}, Ok w s T → ents (delT p T) = delL p (ents T)
  | .nil, _, _ => rfl
  | .node b q st x l r, s, h => by
    have kl := fun e he => (Ok.ent (T := l) h.2.2.1 e he).1
    have kr := fun e he => (Ok.ent (T := r) h.2.2.2 e he).1
    simp only [delT]
    split
    · rename_i e
      subst e
      rw [need_ents]
      have fl : delL q (ents l) = ents l := del_far fun e he k => by have := (kl e he).length_le; rw [k] at this; simp at this; omega
      have fr : delL q (ents r) = ents r := del_far fun e he k => by have := (kr e he).length_le; rw [k] at this; simp at this; omega
      simp only [ents, delL_app, fl, fr]
      cases st <;> simp [delL]
    · rename_i hq
      have hd : delL p (if st = true then [(q, x)] else []) = (if st = true then [(q, x)] else []) := by cases st <;> simp [delL, hq]
      split
      · rename_i hb
        have fl : delL p (ents l) = ents l := del_far fun e he k => by
          obtain ⟨t, k2⟩ := kl e he
          rw [k] at k2
          rw [← k2] at hb; simp [List.getD_eq_getElem?_getD] at hb
        rw [need_ents]
        simp only [ents, delL_app, fl, hd, delT_ents h.2.2.2]
      · rename_i hb
        have fr : delL p (ents r) = ents r := del_far fun e he k => by
          obtain ⟨t, k2⟩ := kr e he
          rw [k] at k2
          rw [← k2] at hb; simp [List.getD_eq_getElem?_getD] at hb
        rw [need_ents]
        simp only [ents, delL_app, fr, hd, delT_ents h.2.2.1]
/-- The longest stored prefix that k begins with, and its value; acc: what was found above. -/
def lonT (k : List Bool) : Tr → Option Ent → Option Ent
  | .nil, acc => acc
  | .node _ q st x l r, acc => if q <+: k then (if k.getD q.length false then lonT k r (if st then some (q, x) else acc) else lonT k l (if st then some (q, x) else acc)) else acc
/-- It is what is wanted of L. -/
def IsLon (k : List Bool) (L : List Ent) : Option Ent → Prop
  | none => ∀ e ∈ L, ¬ e.1 <+: k
  | some e => e ∈ L ∧ e.1 <+: k ∧ ∀ f ∈ L, f.1 <+: k → f.1.length ≤ e.1.length
def LonAcc (w : Nat) (k : List Bool) (T : Tr) : Prop := ∀ (s : List Bool) (acc : Option Ent), Ok w s T → (lonT k T acc = acc ∧ ∀ e ∈ ents T, ¬ e.1 <+: k) ∨ ∃ e, lonT k T acc = some e ∧ e ∈ ents T ∧ e.1 <+: k ∧ ∀ f ∈ ents T, f.1 <+: k → f.1.length ≤ e.1.length
theorem lon_acc {w : Nat} (k : List Bool) (T : Tr) : LonAcc w k T := by
  induction T with
  | nil => exact fun s acc _ => .inl ⟨rfl, by simp [ents]⟩
  | node b q st x l r ihl ihr =>
    intro s acc h
    have kl := fun e he => (Ok.ent (T := l) h.2.2.1 e he).1
    have kr := fun e he => (Ok.ent (T := r) h.2.2.2 e he).1
    simp only [lonT]
    split
    · rename_i hq
      have step : ∀ (m o : Tr) (c : Bool), LonAcc w k m → k.getD q.length false = c → Ok w (q ++ [c]) m → (∀ e ∈ ents o, q ++ [!c] <+: e.1) → (∀ e, e ∈ ents (.node b q st x l r) ↔ ((st = true ∧ e = (q, x)) ∨ e ∈ ents m ∨ e ∈ ents o)) →
          (lonT k m (if st = true then some (q, x) else acc) = acc ∧ ∀ e ∈ ents (.node b q st x l r), ¬ e.1 <+: k) ∨ ∃ e, lonT k m (if st = true then some (q, x) else acc) = some e ∧ e ∈ ents (.node b q st x l r) ∧ e.1 <+: k ∧ ∀ f ∈ ents (.node b q st x l r), f.1 <+: k → f.1.length ≤ e.1.length := by
        intro m o c ih hc hm ho hmem
        have no : ∀ e ∈ ents o, ¬ e.1 <+: k := fun e he hk => by
          obtain ⟨t, ht⟩ := (ho e he).trans hk
          rw [← ht] at hc; simp [List.getD_eq_getElem?_getD] at hc
        rcases ih _ (if st = true then some (q, x) else acc) hm with ⟨e1, e2⟩ | ⟨e, e1, e2, e3, e4⟩
        · rw [e1]
          cases st
          · exact .inl ⟨rfl, fun e he => by
              rcases (hmem e).1 he with ⟨h, _⟩ | h | h
              · cases h
              · exact e2 e h
              · exact no e h⟩
          · exact .inr ⟨(q, x), rfl, (hmem _).2 (.inl ⟨rfl, rfl⟩), hq, fun f hf hk => by
              rcases (hmem f).1 hf with ⟨_, rfl⟩ | h | h
              · exact Nat.le_refl _
              · exact absurd hk (e2 f h)
              · exact absurd hk (no f h)⟩
        · refine .inr ⟨e, e1, (hmem e).2 (.inr (.inl e2)), e3, fun f hf hk => ?_⟩
          rcases (hmem f).1 hf with ⟨_, rfl⟩ | h | h
          · have := (Ok.ent hm e e2).1.length_le; simp at this ⊢; omega
          · exact e4 f h hk
          · exact absurd hk (no f h)
      cases hc : k.getD q.length false
      · simp only [Bool.false_eq_true, if_false]
        exact step l r false ihl hc h.2.2.1 kr (fun e => by cases st <;> simp [ents])
      · simp only [if_true]
        exact step r l true ihr hc h.2.2.2 kl (fun e => by have oc := @or_comm (e ∈ ents l) (e ∈ ents r); cases st <;> simp [ents, oc])
    · rename_i hq
      refine .inl ⟨rfl, fun e he hk => hq ?_⟩
      simp only [ents, List.mem_append] at he
      rcases he with he | he | he
      · cases st <;> simp at he
        subst he; exact hk
      · exact ((List.prefix_append _ _).trans (kl e he)).trans hk
      · exact ((List.prefix_append _ _).trans (kr e he)).trans hk
theorem lon_is {w : Nat} (k : List Bool) (T : Tr) (h : Ok w [] T) : IsLon k (ents T) (lonT k T none) := by
  rcases lon_acc k T [] none h with ⟨e1, e2⟩ | ⟨e, e1, e2, e3, e4⟩
  · rw [e1]; exact e2
  · rw [e1]; exact ⟨e2, e3, e4⟩
end Go.Proofs.Ytidjggaffioekaa
