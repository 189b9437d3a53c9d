/- An order, levels and a longest path exist exactly if there is no cycle, the longest path is as long as the greatest level, and both the path and the cycle consist of edges; for every input, without condition. -/
import Derived.Test.YtaikpjnegopelaaFrame
import Derived.Test.YtaikpjnegopelaaDhM
import Derived.Test.YtaikpjnegopelaaGrO
import Derived.Deep.RegionHeld3
namespace Go.Proofs.Ytaikpjnegopelaa
open Go.RowKit
set_option linter.unusedVariables false

theorem allT_no (g : List (List Int)) (p : List Bool) (x : Nat) : ∀ f v, allT g p x f v = false → ∃ u, v ≤ u ∧ u < v + f ∧ p.getD u false = false ∧ gEdge g u x = true := by
  intro f
  induction f with
  | zero => intro v h; simp [allT] at h
  | succ f ih =>
    intro v h
    unfold allT at h
    rw [Bool.and_eq_false_iff] at h
    rcases h with h | h
    · rw [Bool.or_eq_false_iff] at h
      exact ⟨v, Nat.le_refl _, by omega, h.1, by simpa using h.2⟩
    · obtain ⟨u, h1, h2, h3⟩ := ih (v + 1) h
      exact ⟨u, by omega, by omega, h3⟩
theorem nxt_no (g : List (List Int)) (p : List Bool) : ∀ f x, nxt g p f x = none → ∀ y, x ≤ y → y < x + f → rdy g p y = false := by
  intro f
  induction f with
  | zero => intro x _ y h1 h2; omega
  | succ f ih =>
    intro x h y h1 h2
    unfold nxt at h
    cases e : rdy g p x with
    | true => rw [e, if_pos rfl] at h; cases h
    | false =>
      rw [e, if_neg (by simp)] at h
      by_cases q : y = x
      · subst q; exact e
      · exact ih (x + 1) h y (by omega) (by omega)
theorem topF_stuck (g : List (List Int)) : ∀ f (p : List Bool), p.length = g.length → p.count true + f = g.length → topF g f p = none → ∃ q : List Bool, (∃ x, x < g.length ∧ q.getD x false = false) ∧ ∀ x, x < g.length → q.getD x false = false → ∃ v, v < g.length ∧ q.getD v false = false ∧ gEdge g v x = true := by
  intro f
  induction f with
  | zero => intro p _ _ h; simp [topF] at h
  | succ f ih =>
    intro p hl hc h
    unfold topF at h
    cases e : nxt g p g.length 0 with
    | none =>
      refine ⟨p, ?_, fun x hx hp => ?_⟩
      · by_cases q : ∃ x, x < g.length ∧ p.getD x false = false
        · exact q
        · have hall : p = List.replicate p.length true := by
            apply List.ext_getElem (by simp)
            intro i h1 h2
            have : p.getD i false ≠ false := fun k => q ⟨i, by omega, k⟩
            simp [h1] at this
            simp [this]
          rw [hall, List.count_replicate_self] at hc
          omega
      · have := nxt_no g p g.length 0 e x (Nat.zero_le _) (by omega)
        unfold rdy at this
        rw [hp, Bool.not_false, Bool.true_and] at this
        obtain ⟨u, _, h2, h3⟩ := allT_no g p x _ _ this
        exact ⟨u, by omega, h3⟩
    | some x =>
      rw [e] at h
      simp only [Option.map_eq_none_iff] at h
      have hx := nxt_lt g p g.length 0 x e
      have hr := nxt_rdy g p x _ _ e
      unfold rdy at hr
      rw [Bool.and_eq_true] at hr
      have hpx : p.getD x false = false := by simpa using hr.1
      refine ih (p.set x true) (by simp [hl]) ?_ h
      rw [mark_count p x (by omega) hpx]; omega
/-- Where everybody has somebody before him there is a cycle. -/
theorem back_cycle (g : List (List Int)) (U : Nat → Prop) (x0 : Nat) (h0 : x0 < g.length ∧ U x0) (hp : ∀ x, x < g.length → U x → ∃ v, v < g.length ∧ U v ∧ gEdge g v x = true) : ∃ v, v < g.length ∧ OnC g v := by
  have walk : ∀ k : Nat, ∃ L : List Nat, L.length = k + 1 ∧ (∀ x ∈ L, x < g.length ∧ U x) ∧ ∀ i, i + 1 < L.length → gEdge g (L.getD (i + 1) 0 : Nat) (L.getD i 0 : Nat) = true := by
    intro k
    induction k with
    | zero => exact ⟨[x0], rfl, fun x hx => by simp at hx; subst hx; exact h0, fun i hi => by simp at hi⟩
    | succ k ih =>
      obtain ⟨L, h1, h2, h3⟩ := ih
      have hm : L.getD k 0 ∈ L := by
        have hk : k < L.length := by omega
        simp [hk]
      obtain ⟨v, v1, v2, v3⟩ := hp _ (h2 _ hm).1 (h2 _ hm).2
      refine ⟨L ++ [v], by simp [h1], fun x hx => ?_, fun i hi => ?_⟩
      · rcases List.mem_append.1 hx with q | q
        · exact h2 x q
        · simp at q; subst q; exact ⟨v1, v2⟩
      · rw [List.length_append, List.length_singleton] at hi
        have e1 : (L ++ [v]).getD i 0 = L.getD i 0 := by simp [List.getD_eq_getElem?_getD, List.getElem?_append_left (show i < L.length by omega)]
        rw [e1]
        by_cases q : i + 1 < L.length
        · have e2 : (L ++ [v]).getD (i + 1) 0 = L.getD (i + 1) 0 := by simp [List.getD_eq_getElem?_getD, List.getElem?_append_left q]
          rw [e2]; exact h3 i q
        · have ei : i = k := by omega
          have e2 : (L ++ [v]).getD (i + 1) 0 = v := by rw [show i + 1 = L.length by omega]; simp
          rw [e2, ei]; exact v3
  obtain ⟨L, h1, h2, h3⟩ := walk g.length
  have reach : ∀ d i, i + d < L.length → Rch g (L.getD (i + d) 0) (L.getD i 0) := by
    intro d
    induction d with
    | zero =>
      intro i hi
      have hm : L.getD i 0 ∈ L := by
        have hk : i < L.length := by omega
        simp [hk]
      exact Rch.refl g _ (h2 _ hm).1
    | succ d ih =>
      intro i hi
      have hm : L.getD (i + d + 1) 0 ∈ L := by
        have hk : i + d + 1 < L.length := by omega
        simp [hk]
      exact (ih i (by omega)).step (h2 _ hm).1 (h3 (i + d) (by omega))
  by_cases hnd : L.Nodup
  · have := nodup_len L g.length hnd (fun x hx => (h2 x hx).1)
    omega
  · have key : ∃ i j, i < j ∧ j < L.length ∧ L.getD i 0 = L.getD j 0 := by
      by_cases q : ∃ i j, i < j ∧ j < L.length ∧ L.getD i 0 = L.getD j 0
      · exact q
      · refine absurd ?_ hnd
        unfold List.Nodup
        rw [List.pairwise_iff_getElem]
        intro i j hi hj hij e
        exact q ⟨i, j, hij, hj, by simp [hi, hj, e]⟩
    obtain ⟨i, j, hij, hj, e⟩ := key
    have hm1 : L.getD (i + 1) 0 ∈ L := by
      have hk : i + 1 < L.length := by omega
      simp [hk]
    have hm0 : L.getD i 0 ∈ L := by
      have hk : i < L.length := by omega
      simp [hk]
    have r := reach (j - (i + 1)) (i + 1) (by omega)
    rw [show i + 1 + (j - (i + 1)) = j by omega, ← e] at r
    exact ⟨L.getD (i + 1) 0, (h2 _ hm1).1, L.getD i 0, (h2 _ hm0).1, h3 i (by omega), r⟩
theorem top_cycle (g : List (List Int)) : (topG g).isSome = true ↔ ∀ v, v < g.length → ¬ OnC g v := by
  constructor
  · intro h v hv hc
    cases e : topG g with
    | none => rw [e] at h; cases h
    | some L =>
      obtain ⟨x, hx, h1, h2⟩ := hc
      have pos : ∀ u, u < g.length → ∃ i, i < L.length ∧ L.getD i 0 = (u : Int) := fun u hu => topG_all g L e u hu
      have pre : ∀ i u v : Nat, i < L.length → L.getD i 0 = (v : Int) → u < g.length → gEdge g u v = true → ∃ k, k < i ∧ L.getD k 0 = (u : Int) := by
        intro i u v hi hv hu he
        obtain ⟨y, y1, y2, y3, y4⟩ := topG_before g L e i hi
        have ey : y = v := by rw [hv] at y1; omega
        subst ey
        exact y4 u hu he
      have back : ∀ u, Rch g u v → ∀ j, j < L.length → L.getD j 0 = (v : Int) → ∃ k, k ≤ j ∧ L.getD k 0 = (u : Int) := by
        intro u hu j hj hjv
        refine rch_ind (fun u => ∃ k, k ≤ j ∧ L.getD k 0 = (u : Int)) ⟨j, Nat.le_refl _, hjv⟩ (fun u y hu hy he _ ih => ?_) u hu
        obtain ⟨k, hk, hky⟩ := ih
        obtain ⟨m, hm, hmu⟩ := pre k u y (by omega) hky hu he
        exact ⟨m, by omega, hmu⟩
      obtain ⟨j, hj, hjv⟩ := pos v hv
      obtain ⟨k, hk, hkx⟩ := back x h2 j hj hjv
      obtain ⟨m, hm, hmv⟩ := pre k v x (by omega) hkx hv h1
      obtain ⟨y, y1, y2, y3, _⟩ := topG_before g L e j hj
      exact y3 m (by omega) (by rw [hmv, ← hjv, y1])
  · intro h
    cases e : topG g with
    | some L => rfl
    | none =>
      unfold topG at e
      obtain ⟨q, ⟨x, hx, hq⟩, hb⟩ := topF_stuck g g.length _ (tabB_len _ _) (by rw [tabB_const]; simp [List.count_replicate]) e
      obtain ⟨v, hv, hc⟩ := back_cycle g (fun x => q.getD x false = false) x ⟨hx, hq⟩ hb
      exact absurd hc (h v hv)
theorem rch_rev {g : List (List Int)} {u v : Nat} (h : Rch g u v) : Rch (revG g) v u := by
  have hv : v < (revG g).length := by rw [revG_len]; exact h.2.1
  refine rch_ind (fun u => Rch (revG g) v u) (Rch.refl _ v hv) (fun u y hu hy he _ r => ?_) u h
  exact r.trans (Rch.edge (by rw [revG_len]; exact hy) (by rw [revG_len]; exact hu) (by rw [gEdge_rev]; exact he))
theorem rch_rr {g : List (List Int)} {u v : Nat} (h : Rch (revG (revG g)) u v) : Rch g u v := by
  have e : (revG (revG g)).length = g.length := by rw [revG_len, revG_len]
  obtain ⟨h1, h2, h3⟩ := h
  rw [e] at h1 h2 h3
  refine ⟨h1, h2, ?_⟩
  rw [← gD_congr (revG (revG g)) g v e (fun y u => by rw [gEdge_rev, gEdge_rev]) g.length u]
  exact h3
theorem onC_rev {g : List (List Int)} (h : ∀ v, v < (revG g).length → ¬ OnC (revG g) v) : ∀ v, v < g.length → ¬ OnC g v := by
  intro v hv hc
  obtain ⟨x, hx, h1, h2⟩ := hc
  exact h x (by rw [revG_len]; exact hx) ⟨v, by rw [revG_len]; exact hv, by rw [gEdge_rev]; exact h1, rch_rev h2⟩
theorem onC_rr {g : List (List Int)} {v : Nat} (h : OnC (revG (revG g)) v) : OnC g v := by
  obtain ⟨x, hx, h1, h2⟩ := h
  rw [revG_len, revG_len] at hx
  rw [gEdge_rev, gEdge_rev] at h1
  exact ⟨x, hx, h1, rch_rr h2⟩
theorem top_rev (g : List (List Int)) : (topG (revG g)).isSome = (topG g).isSome := by
  rw [Bool.eq_iff_iff, top_cycle, top_cycle]
  constructor
  · exact onC_rev
  · intro h
    exact onC_rev (fun v hv hc => h v (by rw [revG_len, revG_len] at hv; exact hv) (onC_rr hc))
theorem cyc_nil (g : List (List Int)) : (cycG g).length = 0 ↔ (topG g).isSome = true := by
  rw [top_cycle]
  constructor
  · intro h v hv hc
    obtain ⟨v, hv, hc, hm⟩ : ∃ v, v < g.length ∧ OnC g v ∧ ∀ u, u < v → ¬ OnC g u := by
      induction v using Nat.strongRecOn with
      | ind v ih =>
        by_cases q : ∃ u, u < v ∧ OnC g u
        · obtain ⟨u, hu, hcu⟩ := q
          exact ih u hu (by omega) hcu
        · exact ⟨v, hv, hc, fun u hu k => q ⟨u, hu, k⟩⟩
    obtain ⟨m, B, e⟩ := cyc_some g v hv hc hm
    rw [e, List.length_dropLast, List.length_cons, des_len] at h
    omega
  · intro h; rw [cyc_none g h]; rfl
/-- The way down is a path; it ends where nothing is left. -/
theorem desF_path (g : List (List Int)) (d : List Int) (hp : ∀ (k v : Nat), v < g.length → d.getD v 0 = (k : Int) + 1 → ∃ y, y < g.length ∧ okW g d k v y = true) (k : Nat) : ∀ v : Nat, v < g.length → d.getD v 0 = k →
    PathOf g ((v : Int) :: desF g d k v) ∧ ∃ u : Nat, u < g.length ∧ d.getD u 0 = 0 ∧ ∃ T, ((v : Int) :: desF g d k v) = T ++ [(u : Int)] := by
  induction k with
  | zero =>
    intro v hv hd
    refine ⟨⟨fun i hi => ?_, fun i hi => by simp [desF] at hi⟩, v, hv, by simpa using hd, [], rfl⟩
    have e : i = 0 := by simp [desF] at hi; omega
    subst e
    show 0 ≤ (v : Int) ∧ (v : Int) < _
    omega
  | succ k ih =>
    intro v hv hd
    obtain ⟨y, hy, hyo⟩ := hp k v hv (by omega)
    have F := firstF_min g d k v (g.length - 1) 0 y (Nat.zero_le _) (by omega) hyo
    obtain ⟨u, hu⟩ : ∃ u, u = firstF g d k v (g.length - 1) 0 := ⟨_, rfl⟩
    rw [← hu] at F
    have hul : u < g.length := by omega
    have hok := F.1
    unfold okW at hok
    rw [Bool.and_eq_true, decide_eq_true_eq] at hok
    obtain ⟨⟨p1, p2⟩, z, z1, z2, T, hT⟩ := ih u hul hok.1
    have e : desF g d (k + 1) v = (u : Int) :: desF g d k u := by rw [hu]; rfl
    rw [e]
    refine ⟨⟨fun i hi => ?_, fun i hi => ?_⟩, z, z1, z2, (v : Int) :: T, by rw [hT]; rfl⟩
    · cases i with
      | zero => show 0 ≤ (v : Int) ∧ (v : Int) < _; omega
      | succ i => exact p1 i (by simpa using hi)
    · cases i with
      | zero => exact hok.2
      | succ i => exact p2 i (by simpa using hi)
theorem des_path (g : List (List Int)) (d : List Int) (hp : ∀ (k v : Nat), v < g.length → d.getD v 0 = (k : Int) + 1 → ∃ y, y < g.length ∧ okW g d k v y = true) (v : Nat) (hv : v < g.length) (h0 : 0 ≤ d.getD v 0) :
    PathOf g (des g d v) ∧ ∃ u : Nat, u < g.length ∧ d.getD u 0 = 0 ∧ ∃ T, des g d v = T ++ [(u : Int)] := by
  unfold des
  exact desF_path g d hp _ v hv (by omega)
/-- The cycle, closed by its first node, is a path. -/
theorem cyc_path (g : List (List Int)) (h : ¬ (topG g).isSome = true) : ∃ v L, cycG g = (v : Int) :: L ∧ PathOf g (cycG g ++ [v]) := by
  have hc : ∃ v, v < g.length ∧ OnC g v := by
    by_cases q : ∃ v, v < g.length ∧ OnC g v
    · exact q
    · exact absurd ((top_cycle g).2 fun v hv k => q ⟨v, hv, k⟩) h
  obtain ⟨v, hv, hc, hm⟩ : ∃ v, v < g.length ∧ OnC g v ∧ ∀ u, u < v → ¬ OnC g u := by
    obtain ⟨v, hv, hc⟩ := hc
    induction v using Nat.strongRecOn with
    | ind v ih =>
      by_cases q : ∃ u, u < v ∧ OnC g u
      · obtain ⟨u, hu, hcu⟩ := q
        exact ih u hu (by omega) hcu
      · exact ⟨v, hv, hc, fun u hu k => q ⟨u, hu, k⟩⟩
  obtain ⟨m, B, e⟩ := cyc_some g v hv hc hm
  obtain ⟨⟨p1, p2⟩, u, u1, u2, T, hT⟩ := des_path g (distL g (v : Int)) (fun k x hx hd => dist_pred g v hv k x hx hd) m B.1 B.2.1.2
  have hu : u = v := by
    rw [distL_at g v u hv u1] at u2
    exact gD_only g v u g.length u2
  subst hu
  have e2 : cycG g = (u : Int) :: T := by
    rw [e, hT, ← List.cons_append, List.dropLast_concat]
  refine ⟨u, T, e2, ?_⟩
  rw [e2, List.cons_append, ← hT]
  have ed : (des g (distL g (u : Int)) m).getD 0 0 = (m : Int) := rfl
  refine ⟨fun i hi => ?_, fun i hi => ?_⟩
  · cases i with
    | zero => show 0 ≤ (u : Int) ∧ (u : Int) < _; omega
    | succ i => exact p1 i (by simpa using hi)
  · cases i with
    | zero =>
      show gEdge g (u : Int) ((des g (distL g (u : Int)) m).getD 0 0) = true
      rw [ed]; exact B.2.1.1
    | succ i => exact p2 i (by simpa using hi)
theorem argF_max (d : List Int) (f : Nat) : ∀ v m, (∀ u, u < v → d.getD u 0 ≤ d.getD m 0) → ∀ u, u < v + f → d.getD u 0 ≤ d.getD (argF d f v m) 0 := by
  induction f with
  | zero => intro v m h u hu; exact h u (by omega)
  | succ f ih =>
    intro v m h u hu
    unfold argF
    refine ih (v + 1) _ (fun u hu => ?_) u (by omega)
    by_cases e : u = v
    · subst e; split <;> omega
    · have := h u (by omega)
      split <;> omega
theorem long_up {g : List (List Int)} {F R : List Int} (hF : Good g F) (hR : Good (revG g) R) (k : Nat) : ∀ y : Nat, y < g.length → F.getD y 0 = k → ∀ r : Int, r ≤ R.getD y 0 → ∃ z, z < g.length ∧ r + k ≤ R.getD z 0 := by
  induction k with
  | zero => intro y hy _ r hr; exact ⟨y, hy, by omega⟩
  | succ k ih =>
    intro y hy hk r hr
    rcases (hF y hy).2.2 with e | ⟨v, h1, h2, h3⟩
    · omega
    · have := (hR v (by rw [revG_len]; exact h1)).2.1 y (by rw [revG_len]; exact hy) (by rw [gEdge_rev]; exact h2)
      obtain ⟨z, hz, hzr⟩ := ih v h1 (by omega) (r + 1) (by omega)
      exact ⟨z, hz, by omega⟩
theorem Good.rr {g : List (List Int)} {F : List Int} (h : Good g F) : Good (revG (revG g)) F := by
  intro x hx
  rw [revG_len, revG_len] at hx
  obtain ⟨h1, h2, h3⟩ := h x hx
  refine ⟨h1, fun v hv he => h2 v (by rw [revG_len, revG_len] at hv; exact hv) (by rw [gEdge_rev, gEdge_rev] at he; exact he), ?_⟩
  rcases h3 with q | ⟨v, q1, q2, q3⟩
  · exact .inl q
  · exact .inr ⟨v, by rw [revG_len, revG_len]; exact q1, by rw [gEdge_rev, gEdge_rev]; exact q2, q3⟩
def mxF (m x : Int) : Int := max m x
theorem mx_fold (zs : List Int) : ∀ m, (∀ x ∈ zs, x ≤ zs.foldl mxF m) ∧ m ≤ zs.foldl mxF m ∧ (zs.foldl mxF m = m ∨ zs.foldl mxF m ∈ zs) := by
  induction zs with
  | nil => intro m; exact ⟨fun x hx => by simp at hx, Int.le_refl _, .inl rfl⟩
  | cons z t ih =>
    intro m
    obtain ⟨h1, h2, h3⟩ := ih (mxF m z)
    have e : (z :: t).foldl mxF m = t.foldl mxF (mxF m z) := rfl
    rw [e]
    have hz : z ≤ mxF m z ∧ m ≤ mxF m z ∧ (mxF m z = m ∨ mxF m z = z) := by unfold mxF; omega
    refine ⟨fun x hx => ?_, by omega, ?_⟩
    · rcases List.mem_cons.1 hx with q | q
      · omega
      · exact h1 x q
    · rcases h3 with q | q
      · rcases hz.2.2 with w | w
        · left; omega
        · right; rw [q, w]; simp
      · right; exact List.mem_cons_of_mem _ q
theorem long_ok (g : List (List Int)) (h : (topG g).isSome = true) : PathOf g (longG g) ∧ ((longG g).length : Int) = (levG g).foldl mxF (-1) + 1 := by
  have hr : (topG (revG g)).isSome = true := by rw [top_rev]; exact h
  by_cases h0 : 0 < g.length
  · have eL : longG g = des g (levG (revG g)) (argF (levG (revG g)) (g.length - 1) 1 0) := by unfold longG; rw [if_pos ⟨hr, h0⟩]
    have GF := levG_good g h
    have GR := levG_good (revG g) hr
    have hM : argF (levG (revG g)) (g.length - 1) 1 0 < g.length := argF_lt _ g.length _ _ _ (by omega) h0
    have hmax := argF_max (levG (revG g)) (g.length - 1) 1 0 (fun u hu => by
      have e : u = 0 := by omega
      subst e; exact Int.le_refl _)
    obtain ⟨M, hMe⟩ : ∃ M, M = argF (levG (revG g)) (g.length - 1) 1 0 := ⟨_, rfl⟩
    rw [← hMe] at eL hM hmax
    have hn := GR M (by rw [revG_len]; exact hM)
    have dp := des_path g (levG (revG g)) (fun k v hv hd => by
      rcases (GR v (by rw [revG_len]; exact hv)).2.2 with e | ⟨u, h1, h2, h3⟩
      · omega
      · rw [revG_len] at h1
        refine ⟨u, h1, ?_⟩
        unfold okW
        rw [gEdge_rev] at h2
        rw [h2, Bool.and_true, decide_eq_true_eq]
        omega) M hM hn.1
    rw [eL]
    refine ⟨dp.1, ?_⟩
    rw [des_len]
    have hlen := levG_len g h
    obtain ⟨m1, m2, m3⟩ := mx_fold (levG g) (-1)
    obtain ⟨top, htop⟩ : ∃ t, t = (levG g).foldl mxF (-1) := ⟨_, rfl⟩
    rw [← htop] at m1 m2 m3 ⊢
    -- top is at least M's
    obtain ⟨k, hk⟩ : ∃ k : Nat, (levG (revG g)).getD M 0 = k := ⟨((levG (revG g)).getD M 0).toNat, by omega⟩
    obtain ⟨z, hz, hzr⟩ := long_up GR GF.rr k M (by rw [revG_len]; exact hM) hk ((levG g).getD M 0) (Int.le_refl _)
    rw [revG_len] at hz
    have hz1 := m1 ((levG g).getD z 0) (getD_in _ _ _ (by omega))
    have hM0 := (GF M hM).1
    have ge : (k : Int) ≤ top := by omega
    -- and at most
    have le : top ≤ (k : Int) := by
      rcases m3 with q | q
      · omega
      · obtain ⟨y, hy⟩ := List.getElem?_of_mem q
        have hyl := (List.getElem?_eq_some_iff.1 hy).1
        have ey : (levG g).getD y 0 = top := by rw [List.getD_eq_getElem?_getD, hy]; rfl
        have hyn : y < g.length := by omega
        obtain ⟨j, hj⟩ : ∃ j : Nat, (levG g).getD y 0 = j := ⟨((levG g).getD y 0).toNat, by have := (GF y hyn).1; omega⟩
        obtain ⟨x, hx, hxr⟩ := long_up GF GR j y hyn hj ((levG (revG g)).getD y 0) (Int.le_refl _)
        have := hmax x (by omega)
        have := (GR y (by rw [revG_len]; exact hyn)).1
        omega
    rw [hk]
    omega
  · have eL : longG g = [] := by unfold longG; rw [if_neg (by omega)]
    have e2 : levG g = [] := List.eq_nil_of_length_eq_zero (by rw [levG_len g h]; omega)
    rw [eL, e2]
    exact ⟨⟨fun i hi => by simp at hi, fun i hi => by simp at hi⟩, rfl⟩
end Go.Proofs.Ytaikpjnegopelaa
namespace Go.Proofs.Ytaikpjnegopelaa
open Go.RowKit
set_option linter.unusedVariables false

theorem step_pushI {ops : Array Oper} {o : Oper} {a : Act} {w : World} {K : Act → World → Prop} {Q : Exit → Act → World → Prop} {E : Prop} (hgd : o.guard = none) (s x : Operand)
    (ho : o.op = .call { callee := .builtin .append, args := #[s, x], argTypes := #[31, 31] }) (base : Nat) (V : Value) (L : List Int) (hs : a.eval s = V) (hown : NL w base V L)
    (ad : Addr) (m c : Nat) (M : List Int) (hx : a.eval x = .slice (some ad) m c) (hM : SlR w (some ad) m c (M.map (Value.int .i64))) (hlen : L.length + M.length ≤ 1000000) (hbase : base ≤ w.heap.size)
    (h : ∀ V' w', NL w' base V' (L ++ M) → w.grownBy w' V.ownBlock → K (a.put o.dst V') w') : if Region.wanted o (yielded ops a.tmps) = true then Oper.wp Try.prog o a w K Q else E := by
  have hw : Region.wanted o (yielded ops a.tmps) = true := by simp [Region.wanted, hgd]
  rw [if_pos hw]
  obtain ⟨i0, hi, hz0, hz1, hz2⟩ := info_parts infoI64
  have hl : M.length = m := by simpa using hM.1
  subst hl
  refine wp_append_own w s x 31 ho base 3 i0 (.int .i64 0) 1 8 Try.underlying31 hi hz0 hz1 hz2 rfl (by decide) V L.length (L.map (Value.int .i64)) hs hown ad M.length c (M.map (Value.int .i64)) hx (by simp) (hM.2.2 ad rfl) (ints_one _ _) (by unfold maxLen; omega) (by omega) hbase ?_
  intro V' w' h1 h2 h3
  exact h V' w' (by simpa [NL] using h1) h2
theorem step_first (w5 : World) {ops : Array Oper} {o : Oper} {a : Act} {w : World} {K : Act → World → Prop} {Q : Exit → Act → World → Prop} {E : Prop} (hgd : o.guard = none) (s x : Operand)
    (ho : o.op = .call { callee := .builtin .append, args := #[s, x], argTypes := #[31, 31] }) (b n c : Nat) (L : List Int) (hs : a.eval s = .slice (some ⟨b, 0, none⟩) n c) (hown : NL w w5.heap.size (.slice (some ⟨b, 0, none⟩) n c) L)
    (ad : Addr) (m d : Nat) (M : List Int) (hx : a.eval x = .slice (some ad) m d) (hM : SlR w (some ad) m d (M.map (Value.int .i64))) (hlen : L.length + M.length ≤ 1000000) (hg : w5.grownBy w none)
    (h : ∀ V' w', NL w' w5.heap.size V' (L ++ M) → w5.grownBy w' none → (∀ q cs, IsB w q 3 cs → b ≠ q → IsB w' q 3 cs) → K (a.put o.dst V') w') : if Region.wanted o (yielded ops a.tmps) = true then Oper.wp Try.prog o a w K Q else E :=
  step_pushI hgd s x ho w5.heap.size _ L hs hown ad m d M hx hM hlen hg.size fun V' w' o k =>
    h V' w' o (gb_own hg hown (Nat.le_refl _) k) fun q cs hb hne => hb.keep k (fun e => hne (Option.some.inj e).symm)
theorem isb_at (w : World) (cs : Array Value) (t : TypeId) (n : Nat) (hn : n = w.heap.size) : IsB (w.alloc (.cells cs t)) n t cs := by subst hn; exact IsB.new w t cs
theorem step_last (w5 : World) {ops : Array Oper} {o : Oper} {a : Act} {w : World} {K : Act → World → Prop} {Q : Exit → Act → World → Prop} {E : Prop} (hgd : o.guard = none) (s x : Operand)
    (ho : o.op = .call { callee := .builtin .append, args := #[s, x], argTypes := #[31, 31] }) (V : Value) (L : List Int) (hs : a.eval s = V) (hown : NL w w5.heap.size V L)
    (ad : Addr) (m d : Nat) (M : List Int) (hx : a.eval x = .slice (some ad) m d) (hM : SlR w (some ad) m d (M.map (Value.int .i64))) (hlen : L.length + M.length ≤ 1000000) (hg : w5.grownBy w none)
    (h : ∀ V' w', NL w' w5.heap.size V' (L ++ M) → w5.grownBy w' none → K (a.put o.dst V') w') : if Region.wanted o (yielded ops a.tmps) = true then Oper.wp Try.prog o a w K Q else E :=
  step_pushI hgd s x ho w5.heap.size V L hs hown ad m d M hx hM hlen hg.size fun V' w' o k => h V' w' o (gb_own hg hown (Nat.le_refl _) k)
theorem nl_keep {w w2 : World} {base : Nat} {V : Value} {L : List Int} (k : w.grownBy w2 none) (h : NL w base V L) : NL w2 base V L := h.keep0 k
theorem isb_keep {w w2 : World} {b : Nat} {t : TypeId} {cs : Array Value} (k : w.grownBy w2 none) (h : IsB w b t cs) : IsB w2 b t cs := h.keep0 k
theorem slr_isb {w : World} {b : Nat} {v : Int} (h : IsB w b 3 #[.int .i64 v]) : SlR w (some ⟨b, 0, none⟩) 1 1 ([v].map (Value.int .i64)) := by
  refine ⟨rfl, by simp, ?_⟩
  intro ad ha j u hu
  injection ha with ha; subst ha
  rw [addr0, h.cell j]
  simpa using hu
theorem nl_empty (w : World) (base n : Nat) (hn : n = w.heap.size) (hb : base ≤ n) : NL (w.alloc (.cells #[] 3)) base (.slice (some ⟨n, 0, none⟩) 0 0) [] := by
  subst hn
  exact ⟨rfl, Or.inr ⟨w.heap.size, 0, #[], rfl, hb, IsB.new w _ _, Nat.le_refl _, by decide, rfl, rfl⟩⟩

set_option maxRecDepth 100000 in
set_option maxHeartbeats 4000000 in
theorem acyclic_walk (a : Option Addr) (n c : Nat) (g : List (List Int)) (W : World) (h : SlG W a n c g) : Calls Try.prog 8 #[.slice a n c] W (HoldsT W) := by
  have HH := Lib.hid h
  have hl := h.1
  subst hl
  clear h
  have LA := Lib.hid (large_any W a g.length c g HH.out)
  cases hbg : big g
  · have BN := big_no hbg
    have HB := Lib.hid (fun v hv => Nat.le_trans (BN.2 v hv) (by decide) : ∀ v, v < g.length → (g.getD v []).length ≤ 1000)
    have hn : g.length ≤ 24 := BN.1
    rw [hbg] at LA
    clear BN hbg
    have CN := Lib.hid (cyc_nil g)
    have CP := Lib.hid (cyc_path g)
    have LO := Lib.hid (long_ok g)
    have R0 := Lib.hid (fun w k => cyc_any w a c g k (by omega) HB.out)
    have R1 := Lib.hid (fun w k => topo_any w a c g k (by omega) HB.out)
    have R2 := Lib.hid (fun w k => levels_any w a c g k (by omega) HB.out)
    have R3 := Lib.hid (fun w k => long_any w a c g k (by omega))
    rw [fwG_eq] at R2
    rw [top_rev] at R3
    have CL := Lib.hid (cycG_len g hn)
    have TL := Lib.hid (fun (h : (topG g).isSome = true) => show ((topG g).getD []).length = g.length ∧ (levG g).length = g.length by
      refine ⟨?_, levG_len g h⟩
      cases e : topG g with
      | none => rw [e] at h; cases h
      | some L => exact (topG_mem g L e).1)
    have TN := Lib.hid (fun (h : (topG g).isSome = false) => show (topG g).getD [] = [] ∧ levG g = [] ∧ longG g = [] by
      have e : topG g = none := by
        cases e : topG g with
        | none => rfl
        | some L => rw [e] at h; cases h
      refine ⟨by rw [e]; rfl, by unfold levG; rw [e], ?_⟩
      unfold longG
      rw [top_rev, h, if_neg (by simp)])
    have LV := Lib.hid (fun j => levG_range g j)
    have L3N := Lib.hid (show (longG g).length ≤ 100 by
      unfold longG
      split
      · rw [des_len]
        have := (levG_range (revG g) (argF (levG (revG g)) (g.length - 1) 1 0)).2
        rw [revG_len] at this
        omega
      · simp)
    obtain ⟨CY, hCY⟩ : ∃ L, L = cycG g := ⟨_, rfl⟩
    obtain ⟨L1, hL1⟩ : ∃ L, L = (topG g).getD [] := ⟨_, rfl⟩
    obtain ⟨L2, hL2⟩ : ∃ L, L = levG g := ⟨_, rfl⟩
    obtain ⟨L3, hL3⟩ : ∃ L, L = longG g := ⟨_, rfl⟩
    obtain ⟨k, hk⟩ : ∃ k, k = (topG g).isSome := ⟨_, rfl⟩
    rw [← hCY] at CN CP R0 CL
    rw [← hL1] at R1 TL TN
    rw [← hL2] at R2 TL TN LO LV
    rw [← hL3] at R3 TN LO L3N
    rw [← hk] at CN CP LO R1 R2 R3 TL TN
    clear hCY hL1 hL2 hL3 hk
    cases k
    · obtain ⟨rfl, rfl, rfl⟩ := TN.out rfl
      obtain ⟨v, T, hcy, hp⟩ := CP.out (by simp)
      have PO := Lib.hid hp
      have hv0 : CY.getD 0 0 = (v : Int) := by rw [hcy]; rfl
      have hcl : 1 ≤ CY.length := by rw [hcy]; simp
      have hcl2 : CY.length ≤ 100 := CL.out
      have V0 := Lib.hid hv0
      have hne0 : ((CY.length : Int) == 0) = false := by rw [beq_eq_false_iff_ne]; omega
      have hlt0 : (0 : Int) < (CY.length : Int) := by omega
      clear hcy hv0
      clear hp TL TN LO CN CP LV L3N
      go_enter Try.func8, Try.ntmps8
      go_wp2_with fail
      refine LA.out.mono ?_
      rintro e w1 ⟨rfl, q1⟩
      have G := Lib.hid (dn_gb q1 none)
      have HH1 := Lib.hid (HH.out.keep0 G.out)
      clear q1 LA
      go_wp2_with fail
      refine (R0.out _ HH1.out).mono ?_
      rintro e w2 ⟨V2, rfl, o2, g2⟩
      obtain ⟨a2, c2, rfl⟩ := o2.shape
      have A2 := Lib.hid (o2.slr rfl)
      have N2 := Lib.hid o2
      have HH1 := Lib.hid (HH1.out.keep0 g2)
      have G := Lib.hid (gb_trans G.out g2)
      clear o2 g2
      go_wp2_with fail
      refine (R1.out _ HH1.out).mono ?_
      rintro e w3 ⟨V3, rfl, o3, g3⟩
      obtain ⟨a3, c3, rfl⟩ := o3.shape
      have A3 := Lib.hid (o3.slr rfl)
      have A2 := Lib.hid (A2.out.keep0 g3)
      have N2 := Lib.hid (N2.out.keep0 g3)
      have HH1 := Lib.hid (HH1.out.keep0 g3)
      have G := Lib.hid (gb_trans G.out g3)
      clear o3 g3
      go_wp2_with fail
      refine (R2.out _ HH1.out).mono ?_
      rintro e w4 ⟨V4, rfl, o4, g4⟩
      obtain ⟨a4, c4, rfl⟩ := o4.shape
      have A4 := Lib.hid (o4.slr rfl)
      have A2 := Lib.hid (A2.out.keep0 g4)
      have N2 := Lib.hid (N2.out.keep0 g4)
      have A3 := Lib.hid (A3.out.keep0 g4)
      have HH1 := Lib.hid (HH1.out.keep0 g4)
      have G := Lib.hid (gb_trans G.out g4)
      clear o4 g4
      go_wp2_with fail
      refine (R3.out _ HH1.out).mono ?_
      rintro e w5 ⟨V5, rfl, o5, g5⟩
      obtain ⟨a5, c5, rfl⟩ := o5.shape
      have A5 := Lib.hid (o5.slr rfl)
      have A2 := Lib.hid (A2.out.keep0 g5)
      have N2 := Lib.hid (N2.out.keep0 g5)
      have A3 := Lib.hid (A3.out.keep0 g5)
      have A4 := Lib.hid (A4.out.keep0 g5)
      have HH1 := Lib.hid (HH1.out.keep0 g5)
      have G := Lib.hid (gb_trans G.out g5)
      clear o5 g5
      obtain ⟨b2, d2, hh⟩ := N2.out.headn (n := CY.length) rfl (by omega)
      injection hh with e1 e2 e3
      subst e1
      subst e3
      have c0 := N2.out.at_ rfl 0 (by omega)
      rw [V0.out] at c0
      have hlt1 : 0 < CY.length := by omega
      have KS := Lib.hid (fun (w' : World) (q : w5.grownBy w' none) => (⟨q.cell c0 (by simp), q⟩ : w'.cell? ⟨b2, 0, none⟩ = some (.int .i64 (v : Int)) ∧ w5.grownBy w' none))
      go_wp2_with fail
      go_region_held3 (fun w' => w'.cell? ⟨b2, 0, none⟩ = some (.int .i64 (v : Int)) ∧ w5.grownBy w' none)
        (first | assumption | exact KS.out _ (gb_drew _ _) | exact KS.out _ (by assumption) | exact KS.out _ (Lib.Hid.out (by assumption)) | exact KS.out _ (gb_trans (And.right (by assumption)) (gb_alloc _ _ _)) | exact KS.out _ (gb_trans (gb_drew _ _) (gb_alloc _ _ _)) | exact KS.out _ (gb_trans (gb_trans (gb_drew _ _) (gb_alloc _ _ _)) (gb_alloc _ _ _)))
        (first
          | (refine step_first w5 rfl _ _ rfl _ _ _ [] rfl (by first | exact nl_keep (gb_drew _ _) (nl_empty w5 _ _ (by first | with_reducible rfl | exact (alloc_size _ _).symm) (by omega)) | exact nl_keep (gb_drew _ _) (nl_keep (gb_alloc _ _ _) (nl_empty w5 _ _ (by first | with_reducible rfl | exact (alloc_size _ _).symm) (by omega))) | exact nl_keep (gb_drew _ _) (nl_empty (w5.alloc (.cells #[.int .i64 (v : Int)] 3)) _ _ (by first | with_reducible rfl | exact (alloc_size _ _).symm) (by omega))) _ _ _ CY rfl (A2.out.keep0 (And.right (by assumption))) (by simp; omega) (And.right (by assumption)) ?_
             intro V6 w6 o6 g6 t6
             obtain ⟨a6, c6, rfl⟩ := o6.shape
             have G6 := Lib.hid g6
             have O6 := Lib.hid o6)
          | (refine step_last w5 rfl _ _ rfl _ ([] ++ CY) rfl (by first | exact O6.out | exact O6.out.keep0 (gb_alloc _ _ _)) _ _ _ [(v : Int)] rfl (by first | exact slr_isb (isb_at w6 _ _ _ (by first | with_reducible rfl | exact (alloc_size _ _).symm)) | exact slr_isb (t6 _ _ (isb_keep (gb_drew _ _) (isb_at (w5.alloc (.cells #[] 3)) _ _ _ (by first | with_reducible rfl | exact (alloc_size _ _).symm))) (by omega)) | exact slr_isb (t6 _ _ (isb_keep (gb_drew _ _) (isb_keep (gb_alloc _ _ _) (isb_at w5 _ _ _ (by first | with_reducible rfl | exact (alloc_size _ _).symm)))) (by omega))) (by simp; omega) (And.right (by assumption)) ?_
             intro V7 w7 o7 g7
             have o7 : NL w7 w5.heap.size V7 (CY ++ [(v : Int)]) := o7
             obtain ⟨a7, c7, hV7⟩ := o7.shape
             rw [show (CY ++ [(v : Int)]).length = CY.length + 1 by simp] at hV7
             subst hV7
             have G7 := Lib.hid g7
             have O7 := Lib.hid (o7.slr (by simp)))
          | (go_at_call 31; refine (path_yes _ _ _ _ _ _ _ g (CY ++ [(v : Int)]) (HH1.out.keep0 G7.out) O7.out (by omega) PO.out).mono ?_; rintro e w8 ⟨rfl, q8⟩; have G8 := gb_trans G7.out (dn_gb q8 none))
          | (go_at_call 12; refine (works_any _).mono ?_; rintro e w9 ⟨rfl, g9⟩; have G9 := gb_trans G8 g9))
      all_goals
        rename_i hs
        have GE := Lib.hid (below_of (gb_trans G.out hs.2))
        clear hs
        go_wp2
        go_ret
        exact ⟨rfl, GE.out⟩
    · have hcy : CY = [] := List.eq_nil_of_length_eq_zero (CN.out.2 rfl)
      subst hcy
      obtain ⟨t1, t2⟩ := TL.out rfl
      obtain ⟨po, ll⟩ := LO.out rfl
      have PO := Lib.hid po
      have l3n := L3N.out
      have D1 := Lib.hid (show (((L1.length : Nat) : Int) == (g.length : Int)) = true by rw [t1]; simp)
      have D2 := Lib.hid (show (((L2.length : Nat) : Int) == (g.length : Int)) = true by rw [t2]; simp)
      obtain ⟨tp, htp⟩ : ∃ t, t = L2.foldl mxF (-1) := ⟨_, rfl⟩
      rw [← htp] at ll
      have TP := Lib.hid htp.symm
      have LL := Lib.hid ll
      clear po TL TN LO CN CP CL htp t1
      go_enter Try.func8, Try.ntmps8
      go_wp2_with fail
      refine LA.out.mono ?_
      rintro e w1 ⟨rfl, q1⟩
      have G := Lib.hid (dn_gb q1 none)
      have HH1 := Lib.hid (HH.out.keep0 G.out)
      clear q1 LA
      go_wp2_with fail
      refine (R0.out _ HH1.out).mono ?_
      rintro e w2 ⟨V2, rfl, o2, g2⟩
      obtain ⟨a2, c2, rfl⟩ := o2.shape
      have A2 := Lib.hid (o2.slr rfl)
      have HH1 := Lib.hid (HH1.out.keep0 g2)
      have G := Lib.hid (gb_trans G.out g2)
      clear o2 g2
      go_wp2_with fail
      refine (R1.out _ HH1.out).mono ?_
      rintro e w3 ⟨V3, rfl, o3, g3⟩
      obtain ⟨a3, c3, rfl⟩ := o3.shape
      have A3 := Lib.hid (o3.slr rfl)
      have A2 := Lib.hid (A2.out.keep0 g3)
      have HH1 := Lib.hid (HH1.out.keep0 g3)
      have G := Lib.hid (gb_trans G.out g3)
      clear o3 g3
      go_wp2_with fail
      refine (R2.out _ HH1.out).mono ?_
      rintro e w4 ⟨V4, rfl, o4, g4⟩
      obtain ⟨a4, c4, rfl⟩ := o4.shape
      have A4 := Lib.hid (o4.slr rfl)
      have A2 := Lib.hid (A2.out.keep0 g4)
      have A3 := Lib.hid (A3.out.keep0 g4)
      have HH1 := Lib.hid (HH1.out.keep0 g4)
      have G := Lib.hid (gb_trans G.out g4)
      clear o4 g4
      go_wp2_with fail
      refine (R3.out _ HH1.out).mono ?_
      rintro e w5 ⟨V5, rfl, o5, g5⟩
      obtain ⟨a5, c5, rfl⟩ := o5.shape
      have A5 := Lib.hid (o5.slr rfl)
      have A2 := Lib.hid (A2.out.keep0 g5)
      have A3 := Lib.hid (A3.out.keep0 g5)
      have A4 := Lib.hid (A4.out.keep0 g5)
      have HH1 := Lib.hid (HH1.out.keep0 g5)
      have G := Lib.hid (gb_trans G.out g5)
      clear o5 g5
      have d1 := D1.out
      have d2 := D2.out
      go_wp2
      go_loopw [11, 12] (fun m s wr => ∃ i : Nat, i ≤ L2.length ∧ s = .int .i64 i ∧ m = .int .i64 ((L2.take i).foldl mxF (-1)) ∧ wr = w5) (fun _ s _ => L2.length - (intOf s).toNat)
      case atStart => exact ⟨0, Nat.zero_le _, rfl, rfl, rfl⟩
      case round =>
        obtain ⟨i, hi, rfl, rfl, rfl⟩ := hrel
        by_cases hit : i < L2.length
        · have i1 : (i : Int) < L2.length := by omega
          cases a4 with
          | none => exact absurd (A4.out.2.1 rfl).1 (by omega)
          | some p4 =>
            have c1 := A4.out.cellAt i hit
            have TS := Lib.hid (show (L2.take (i + 1)).foldl mxF (-1) = max ((L2.take i).foldl mxF (-1)) (L2.getD i 0) by
              rw [List.take_add_one, List.getElem?_eq_getElem hit, List.foldl_append]; simp [hit, mxF])
            obtain ⟨z1, hz1⟩ : ∃ z, z = (L2.take i).foldl mxF (-1) := ⟨_, rfl⟩
            rw [← hz1] at TS ⊢
            obtain ⟨z2, hz2⟩ : ∃ z, z = L2.getD i 0 := ⟨_, rfl⟩
            rw [← hz2] at TS c1
            clear hz1 hz2
            by_cases hlt : z1 < z2
            · have HX := Lib.hid (show max z1 z2 = z2 by omega)
              go_wp2
              go_roundw
              case rel => exact ⟨i + 1, by omega, by go_num, by rw [TS.out, HX.out], trivial⟩
              case measure => simp [intOf]; omega
            · have HX := Lib.hid (show max z1 z2 = z1 by omega)
              go_wp2
              go_roundw
              case rel => exact ⟨i + 1, by omega, by go_num, by rw [TS.out, HX.out], trivial⟩
              case measure => simp [intOf]; omega
        · have hie : i = L2.length := by omega
          have i1 : ¬ (i : Int) < L2.length := by omega
          have HX := Lib.hid (show (L2.take i).foldl mxF (-1) = tp by rw [hie, List.take_length, TP.out])
          rw [HX.out]
          subst hie
          have d3 : (((L3.length : Nat) : Int) == tp + 1) = true := by rw [beq_iff_eq]; exact LL.out
          have b1 : tp ≤ 100 := by have := LL.out; omega
          have b2 : -1 ≤ tp := by have := LL.out; omega
          go_wp2_with fail
          refine (path_yes _ _ _ _ _ _ _ g L3 HH1.out A5.out (by omega) PO.out).mono ?_
          rintro e w6 ⟨rfl, q6⟩
          have G := Lib.hid (gb_trans G.out (dn_gb q6 none))
          clear q6
          go_wp2_with fail
          refine (works_any _).mono ?_
          rintro e we ⟨rfl, ge⟩
          go_wp2
          go_ret
          exact ⟨rfl, below_of (gb_trans G.out ge)⟩
  · rw [hbg] at LA
    clear hbg
    go_enter Try.func8, Try.ntmps8
    go_wp2_with fail
    refine LA.out.mono ?_
    rintro e w1 ⟨rfl, q1⟩
    go_wp2_with fail
    refine (works_any _).mono ?_
    rintro e w2 ⟨rfl, g2⟩
    go_wp2
    go_ret
    exact ⟨rfl, below_of (gb_trans (dn_gb q1 none) g2)⟩
end Go.Proofs.Ytaikpjnegopelaa
namespace Go.Proofs.Ytaikpjnegopelaa.digraphAcyclic
open Go.ChangeShapes Go.WideShapes Go.ChangeAt Go.RowKit
set_option linter.unusedVariables false

set_option maxRecDepth 100000 in
theorem lifted (os : Os) (started : os.Started) (H : Type) (enc : TypeId × Value → H) :
    ReturnsInHanded {} Try.checked os 8 .any (Rows.digraphAcyclicSpec.pre6 enc Try.prog Try.f8 Rows.digraphAcyclicRow.domain false) (Rows.digraphAcyclicSpec.post enc Try.prog Try.f8 false true false false) := by
  refine returnsInHanded_of_change (C := Try.checked) ownKnobs started (by kernel_rfl) Try.func8
    (ChangeSpec.witness6 (enc := enc) (C := Try.checked) false ⟨#[], #[.slice none 0 0], []⟩ 8 (by kernel_rfl) (by kernel_rfl) (by kernel_rfl) (by kernel_rfl)) ?_
  intro W base args ds gs before hval0 hW hcnd _
  have hval : ∀ (j : Nat) t v, Try.f8.params[j]? = some t → args[j]? = some v → Value.okWide Try.prog W .any base t v := hval0
  have hW' := hW
  obtain ⟨p, q, hA0, hV, rfl, hfz, hnd⟩ := hW
  have hA : DataW.TrodAll enc Try.prog W 0 (fun _ => true) true Try.f8.params.toList args.toList ds p := hA0
  rw [Try.params8] at hA hval
  obtain ⟨v0, vs0, d0, ds0, p0, q0, hargs, rfl, rfl, h0, r0⟩ := trodAll_cons hA
  obtain ⟨rfl, rfl, rfl⟩ := trodAll_nil r0
  obtain rfl : args = #[v0] := by cases args; simp_all
  obtain ⟨rfl, rfl⟩ := trodVars_none hV
  have k0 := h0
  have lt0 : ∀ x ∈ p0, x.block < W.heap.size := by obtain ⟨m, hm⟩ := k0; exact DataW.trod_lt m _ _ _ hm
  obtain ⟨a0, len0, cap0, g0, rfl, w0⟩ := open_graph Try.underlying22 Try.underlying31 Try.underlying3 (by kernel_rfl) (by kernel_rfl) (hval 0 22 v0 rfl rfl) h0
  clear hA0 hval0
  refine (acyclic_walk a0 len0 cap0 g0 W w0).mono fun e W' ⟨he, bel⟩ => ?_
  subst he
  exact ⟨_, rfl, _, _, _, [], _, [], hW', trodAll_mk1 (shut_bool Try.underlying4 _), (trodAll_cons_mk (Below.trod laidOutAll (by kernel_rfl) (of_decide_eq_true (by kernel_rfl)) k0 bel lt0) trodAll_mk0), rfl, bel.frame _, fun h => by cases h⟩

theorem over : Rows.digraphAcyclicRow.holds Try.pinned (OpenSpec.ofChange Rows.digraphAcyclicSpec) :=
  OpenClaim.holds_of_wide 8 Try.f8 rfl rfl rfl rfl rfl rfl rfl ⟨rfl, rfl, rfl, rfl, rfl⟩ rfl rfl rfl rfl rfl (by kernel_rfl) Try.func8 (by kernel_rfl)
    (of_decide_eq_true (by kernel_rfl)) (by unfold Func.isWrapper; first | (rw [if_pos (by decide +kernel)]; kernel_rfl) | (rw [if_neg (by decide +kernel)]; exact ⟨rfl, rfl⟩))
    (fun os started H enc _ => lifted os started H enc)

/-- The statement. -/
theorem proved : Rows.DigraphAcyclicSaid := over
#print axioms proved
end Go.Proofs.Ytaikpjnegopelaa.digraphAcyclic
