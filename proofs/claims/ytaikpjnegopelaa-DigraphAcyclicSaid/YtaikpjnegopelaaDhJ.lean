/- ShortestCycle: the theory. -/
import Derived.Test.YtaikpjnegopelaaDgI
import Derived.Test.YtaikpjnegopelaaDhI
import Derived.Test.YtaikpjnegopelaaGrL
namespace Go.Proofs.Ytaikpjnegopelaa
set_option linter.unusedVariables false

def cand (g : List (List Int)) (d : List Int) (v u : Nat) : Prop := gEdge g v u = true ∧ 0 ≤ d.getD u 0
/-- What is best of the nodes below x. -/
def Best (g : List (List Int)) (d : List Int) (v x : Nat) : Option Nat → Prop
  | none => ∀ u, u < x → ¬ cand g d v u
  | some m => m < x ∧ cand g d v m ∧ ∀ u, u < x → cand g d v u → d.getD m 0 ≤ d.getD u 0 ∧ (d.getD u 0 = d.getD m 0 → m ≤ u)
theorem bst_best (g : List (List Int)) (d : List Int) (v : Nat) (f : Nat) : ∀ x nx, Best g d v x nx → Best g d v (x + f) (bst g d v f x nx) := by
  induction f with
  | zero => intro x nx h; exact h
  | succ f ih =>
    intro x nx h
    unfold bst
    have e : x + (f + 1) = (x + 1) + f := by omega
    rw [e]
    refine ih (x + 1) _ ?_
    by_cases hc : gEdge g v x = true ∧ 0 ≤ d.getD x 0 ∧ better d x nx = true
    · rw [if_pos hc]
      refine ⟨Nat.lt_succ_self _, ⟨hc.1, hc.2.1⟩, fun u hu hcu => ?_⟩
      by_cases eu : u = x
      · subst eu; exact ⟨Int.le_refl _, fun _ => Nat.le_refl _⟩
      · cases nx with
        | none => exact absurd hcu (h u (by omega))
        | some m =>
          have hb : d.getD x 0 < d.getD m 0 := of_decide_eq_true hc.2.2
          have := (h.2.2 u (by omega) hcu).1
          exact ⟨by omega, fun q => by omega⟩
    · rw [if_neg hc]
      cases nx with
      | none =>
        intro u hu hcu
        by_cases eu : u = x
        · subst eu; exact hc ⟨hcu.1, hcu.2, rfl⟩
        · exact h u (by omega) hcu
      | some m =>
        refine ⟨by have := h.1; omega, h.2.1, fun u hu hcu => ?_⟩
        by_cases eu : u = x
        · subst eu
          have : ¬ d.getD u 0 < d.getD m 0 := fun q => hc ⟨hcu.1, hcu.2, decide_eq_true q⟩
          exact ⟨by omega, fun _ => by have := h.1; omega⟩
        · exact h.2.2 u (by omega) hcu
theorem distL_rch (g : List (List Int)) (v u : Nat) (hv : v < g.length) (hu : u < g.length) : 0 ≤ (distL g (v : Int)).getD u 0 ↔ Rch g u v := by
  rw [distL_at g v u hv hu]
  exact ⟨fun h => ⟨hu, hv, h⟩, fun h => h.2.2⟩
theorem onC_cand (g : List (List Int)) (v : Nat) (hv : v < g.length) : OnC g v ↔ ∃ x, x < g.length ∧ cand g (distL g (v : Int)) v x := by
  constructor
  · rintro ⟨x, hx, h1, h2⟩; exact ⟨x, hx, h1, (distL_rch g v x hv hx).2 h2⟩
  · rintro ⟨x, hx, h1, h2⟩; exact ⟨x, hx, h1, (distL_rch g v x hv hx).1 h2⟩
theorem bst_none (g : List (List Int)) (v : Nat) (hv : v < g.length) (h : ¬ OnC g v) : bst g (distL g (v : Int)) v g.length 0 none = none := by
  have B := bst_best g (distL g (v : Int)) v g.length 0 none (fun u hu => by omega)
  rw [Nat.zero_add] at B
  cases e : bst g (distL g (v : Int)) v g.length 0 none with
  | none => rfl
  | some m => rw [e] at B; exact absurd ((onC_cand g v hv).2 ⟨m, B.1, B.2.1⟩) h
theorem bst_some (g : List (List Int)) (v : Nat) (hv : v < g.length) (h : OnC g v) : ∃ m, bst g (distL g (v : Int)) v g.length 0 none = some m ∧ Best g (distL g (v : Int)) v g.length (some m) := by
  have B := bst_best g (distL g (v : Int)) v g.length 0 none (fun u hu => by omega)
  rw [Nat.zero_add] at B
  cases e : bst g (distL g (v : Int)) v g.length 0 none with
  | none =>
    rw [e] at B
    obtain ⟨x, hx, hc⟩ := (onC_cand g v hv).1 h
    exact absurd hc (B x hx)
  | some m => rw [e] at B; exact ⟨m, rfl, B⟩
theorem cycF_skip (g : List (List Int)) (v : Nat) (hv : v ≤ g.length) (h : ∀ u, u < v → ¬ OnC g u) : cycF g g.length 0 = cycF g (g.length - v) v := by
  induction v with
  | zero => rfl
  | succ v ih =>
    rw [ih (by omega) (fun u hu => h u (by omega))]
    have e : g.length - v = (g.length - (v + 1)) + 1 := by omega
    rw [e]
    show (match bst g (distL g (v : Int)) v g.length 0 none with | none => cycF g (g.length - (v + 1)) (v + 1) | some m => _) = _
    rw [bst_none g v (by omega) (h v (by omega))]
theorem cyc_none (g : List (List Int)) (h : ∀ v, v < g.length → ¬ OnC g v) : cycG g = [] := by
  unfold cycG
  rw [cycF_skip g g.length (Nat.le_refl _) h, Nat.sub_self]
  rfl
theorem cyc_some (g : List (List Int)) (v : Nat) (hv : v < g.length) (hc : OnC g v) (h : ∀ u, u < v → ¬ OnC g u) : ∃ m, Best g (distL g (v : Int)) v g.length (some m) ∧ cycG g = ((v : Int) :: des g (distL g (v : Int)) m).dropLast := by
  obtain ⟨m, e, B⟩ := bst_some g v hv hc
  refine ⟨m, B, ?_⟩
  unfold cycG
  rw [cycF_skip g v (by omega) h]
  have e2 : g.length - v = (g.length - v - 1) + 1 := by omega
  rw [e2]
  show (match bst g (distL g (v : Int)) v g.length 0 none with | none => _ | some m => ((v : Int) :: des g (distL g (v : Int)) m).dropLast) = _
  rw [e]
/-- The program's way round is the reference's. -/
theorem cyc_down (g : List (List Int)) (v : Nat) (hv : v < g.length) (m : Nat) (B : Best g (distL g (v : Int)) v g.length (some m)) (k : Nat) (hk : (distL g (v : Int)).getD m 0 = k) :
    desL g (distL g (v : Int)) (k : Int) (v : Int) k = ((v : Int) :: des g (distL g (v : Int)) m).dropLast ∧ ∀ i, i ≤ k → 0 ≤ desV g (distL g (v : Int)) (k : Int) (v : Int) i ∧ desV g (distL g (v : Int)) (k : Int) (v : Int) i < (g.length : Int) := by
  obtain ⟨hm, hcm, hb⟩ := B
  obtain ⟨d, hd⟩ : ∃ d, d = distL g (v : Int) := ⟨_, rfl⟩
  have hp : ∀ (k v : Nat), v < g.length → d.getD v 0 = (k : Int) + 1 → ∃ y, y < g.length ∧ okW g d k v y = true := by
    rw [hd]; exact fun k u hu h => dist_pred g v hv k u hu h
  rw [← hd] at hk hb hcm ⊢
  clear hd
  cases k with
  | zero =>
    refine ⟨?_, fun i hi => ?_⟩
    · have e : des g d m = [(m : Int)] := by unfold des; rw [hk]; rfl
      rw [e]
      rfl
    · have e : i = 0 := by omega
      subst e
      show 0 ≤ (v : Int) ∧ (v : Int) < _
      omega
  | succ k =>
    have okm : okW g d ((k + 1 : Nat) : Int) v m = true := by
      unfold okW
      rw [hcm.1, hk]; simp
    have N := next_same g d d ((k + 1 : Nat) : Int) v hv (fun _ _ => Iff.rfl) m hm okm
    have F := firstF_min g d ((k + 1 : Nat) : Int) v (g.length - 1) 0 m (Nat.zero_le _) (by omega) okm
    obtain ⟨u, hu⟩ : ∃ u, u = firstF g d ((k + 1 : Nat) : Int) v (g.length - 1) 0 := ⟨_, rfl⟩
    rw [← hu] at N F
    have oku := N.2.1
    unfold okW at oku
    rw [Bool.and_eq_true, decide_eq_true_eq] at oku
    have hle := (hb u N.2.2 ⟨oku.2, by rw [oku.1]; omega⟩).2 (by rw [oku.1, hk])
    have eu : u = m := by have := F.2; omega
    rw [eu] at N
    have D := down_same g d d ((k + 1 : Nat) : Int) (fun _ _ _ _ _ => Iff.rfl) hp (k + 1) m hm hk (Int.le_refl _)
    have e1 : ((k + 1 : Nat) : Int) - 1 = (k : Int) := by omega
    rw [e1] at D
    have e2 : des g d m = desL g d (k : Int) (m : Int) (k + 1) := by
      rw [D.1]
      unfold des
      rw [hk, Int.toNat_natCast]
    have e3 : (desL g d (k : Int) (m : Int) (k + 1)).dropLast = desL g d (k : Int) (m : Int) k := by
      unfold desL
      rw [List.range_succ (n := k + 1), List.map_append, List.map_singleton, List.dropLast_concat]
    have e4 : ∀ (x : Int) (L : List Int), L ≠ [] → (x :: L).dropLast = x :: L.dropLast := fun x L h => by
      cases L with
      | nil => exact absurd rfl h
      | cons y t => rfl
    refine ⟨?_, fun i hi => ?_⟩
    · rw [desL_cons, Int.toNat_natCast, N.1, e1, e4 _ _ (by unfold des; simp), e2, e3]
    · cases i with
      | zero => show 0 ≤ (v : Int) ∧ (v : Int) < _; omega
      | succ i =>
        rw [desV_shift, Int.toNat_natCast, N.1, e1]
        exact D.2 i (by omega)
/-- The nearest of the successors, as the program finds it. -/
def nrF (n : Nat) (d : List Int) (s x : Int) : Int := if 0 ≤ x ∧ x < (n : Int) ∧ d.getD x.toNat 0 ≠ -1 ∧ (s = -1 ∨ d.getD x.toNat 0 < s) then d.getD x.toNat 0 else s
theorem nr_fold (n : Nat) (d : List Int) (hd : ∀ u, -1 ≤ d.getD u 0) (zs : List Int) : ∀ s, -1 ≤ s →
    (zs.foldl (nrF n d) s = -1 → s = -1 ∧ ∀ x : Nat, x < n → (x : Int) ∈ zs → d.getD x 0 = -1) ∧
    (zs.foldl (nrF n d) s ≠ -1 → 0 ≤ zs.foldl (nrF n d) s ∧ (zs.foldl (nrF n d) s = s ∨ ∃ x : Nat, x < n ∧ (x : Int) ∈ zs ∧ d.getD x 0 = zs.foldl (nrF n d) s) ∧ (s = -1 ∨ zs.foldl (nrF n d) s ≤ s) ∧ ∀ x : Nat, x < n → (x : Int) ∈ zs → d.getD x 0 ≠ -1 → zs.foldl (nrF n d) s ≤ d.getD x 0) := by
  induction zs with
  | nil => intro s hs; exact ⟨fun h => ⟨h, fun x _ hx => by simp at hx⟩, fun h => ⟨by have h2 : s ≠ -1 := h; show 0 ≤ s; omega, .inl rfl, .inr (Int.le_refl _), fun x _ hx => by simp at hx⟩⟩
  | cons z t ih =>
    intro s hs
    have e : (z :: t).foldl (nrF n d) s = t.foldl (nrF n d) (nrF n d s z) := rfl
    rw [e]
    have hz := hd z.toNat
    have hc : ((0 ≤ z ∧ z < (n : Int) ∧ d.getD z.toNat 0 ≠ -1 ∧ (s = -1 ∨ d.getD z.toNat 0 < s)) ∧ nrF n d s z = d.getD z.toNat 0) ∨ (¬ (0 ≤ z ∧ z < (n : Int) ∧ d.getD z.toNat 0 ≠ -1 ∧ (s = -1 ∨ d.getD z.toNat 0 < s)) ∧ nrF n d s z = s) := by
      unfold nrF
      by_cases c : 0 ≤ z ∧ z < (n : Int) ∧ d.getD z.toNat 0 ≠ -1 ∧ (s = -1 ∨ d.getD z.toNat 0 < s)
      · rw [if_pos c]; exact .inl ⟨c, rfl⟩
      · rw [if_neg c]; exact .inr ⟨c, rfl⟩
    have k := ih (nrF n d s z) (by rcases hc with ⟨_, q⟩ | ⟨_, q⟩ <;> rw [q] <;> omega)
    obtain ⟨s2, hs2⟩ : ∃ q, q = nrF n d s z := ⟨_, rfl⟩
    rw [← hs2] at hc k ⊢
    obtain ⟨r, hr⟩ : ∃ q, q = t.foldl (nrF n d) s2 := ⟨_, rfl⟩
    rw [← hr] at k ⊢
    clear hs2 hr ih e
    constructor
    · intro h
      obtain ⟨h1, h2⟩ := k.1 h
      rcases hc with ⟨c, q⟩ | ⟨c, q⟩
      · exact absurd (by omega) c.2.2.1
      · refine ⟨by omega, fun x hx hm => ?_⟩
        rcases List.mem_cons.1 hm with w | w
        · subst w
          rw [Int.toNat_natCast] at c
          by_cases y : d.getD x 0 = -1
          · exact y
          · exact absurd ⟨by omega, by omega, y, .inl (by omega)⟩ c
        · exact h2 x hx w
    · intro h
      obtain ⟨h0, h1, h2, h3⟩ := k.2 h
      refine ⟨h0, ?_, ?_, fun x hx hm hne => ?_⟩
      · rcases h1 with w | ⟨x, a1, a2, a3⟩
        · rcases hc with ⟨c, q⟩ | ⟨c, q⟩
          · right
            exact ⟨z.toNat, by omega, by rw [Int.toNat_of_nonneg c.1]; simp, by omega⟩
          · left; omega
        · right; exact ⟨x, a1, List.mem_cons_of_mem _ a2, a3⟩
      · rcases hc with ⟨c, q⟩ | ⟨c, q⟩
        · have c4 := c.2.2.2
          have c3 := c.2.2.1
          omega
        · omega
      · rcases List.mem_cons.1 hm with w | w
        · subst w
          rw [Int.toNat_natCast] at hc hz
          rcases hc with ⟨c, q⟩ | ⟨c, q⟩
          · omega
          · have : ¬ (s = -1 ∨ d.getD x 0 < s) := fun y => c ⟨by omega, by omega, hne, y⟩
            omega
        · exact h3 x hx w hne
theorem nr_best (g : List (List Int)) (d : List Int) (hd : ∀ u, -1 ≤ d.getD u 0) (v : Nat) (hv : v < g.length) (m : Nat) (B : Best g d v g.length (some m)) : (g.getD v []).foldl (nrF g.length d) (-1) = d.getD m 0 := by
  obtain ⟨hm, hcm, hb⟩ := B
  have N := nr_fold g.length d hd (g.getD v []) (-1) (Int.le_refl _)
  have hmm := (gEdge_mem g v m hv hm).1 hcm.1
  have hne : (g.getD v []).foldl (nrF g.length d) (-1) ≠ -1 := fun h => by
    have := (N.1 h).2 m hm hmm
    have := hcm.2
    omega
  obtain ⟨h0, h1, h2, h3⟩ := N.2 hne
  have hle := h3 m hm hmm (by have := hcm.2; omega)
  rcases h1 with q | ⟨x, hx, hxm, q⟩
  · exact absurd q hne
  · have := (hb x hx ⟨(gEdge_mem g v x hv hx).2 hxm, by omega⟩).1
    omega
theorem distL_rr (g : List (List Int)) (v : Int) : distL (revG (revG g)) v = distL g v := by
  unfold distL
  have e : (revG (revG g)).length = g.length := by rw [revG_len, revG_len]
  rw [e]
  have k := fun t => gD_congr (revG (revG g)) g t e (fun y u => by rw [gEdge_rev, gEdge_rev])
  split
  · congr 1
    funext u
    exact k v.toNat g.length u
  · rfl
end Go.Proofs.Ytaikpjnegopelaa
