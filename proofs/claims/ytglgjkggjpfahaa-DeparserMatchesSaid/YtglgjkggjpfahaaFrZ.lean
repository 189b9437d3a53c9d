/- An environment whose datum fits the memory: how many rows of fields it has. -/
import Derived.Test.YtglgjkggjpfahaaFrY
import Derived.SizedLaws
namespace Go.Proofs.Ytglgjkggjpfahaa
open Go.ChangeShapes Go.WideShapes Go.ChangeAt Go.RowKit Go.Joins Go.Deep
set_option linter.unusedVariables false
set_option maxRecDepth 100000 in
theorem env_fits {H : Type} {enc : TypeId × Value → H} {w : World} {c0 c2 c3 : Value} {fa : Option Addr} {fn fc : Nat} {d : DataW H} {p : List MemPlace} (h : DataW.Trod enc Try.prog w 0 (fun _ => true) true 42 (.agg #[c0, .slice fa fn fc, c2, c3]) d p)
    {ts : List TypeId} {ds : List (DataW H)} {j : Nat} (ht : ts[j]? = some 42) (hd : ds[j]? = some d) (hsz : (DataW.weightsEach Try.prog ts ds).all (· ≤ reachBytes) = true) : fn ≤ 5864062014634 := by
  obtain ⟨fuel, hf⟩ := h
  obtain ⟨xs, n, _, hx, _, hlen, pg⟩ := DataW.trod_struct Try.underlying42 hf
  match xs, hlen with
  | [q0, q1, q2, q3], _ =>
    have e1 : DataW.trod enc Try.prog w 0 (fun _ => true) true n 39 (([c0, .slice fa fn fc, c2, c3].drop 1).take (Try.prog.cellsOf 39)) = some q1 := pg 1 _ rfl
    rw [show Try.prog.cellsOf 39 = 1 from by kernel_rfl] at e1
    have e2 : DataW.trod enc Try.prog w 0 (fun _ => true) true n 39 [.slice fa fn fc] = some q1 := e1
    have hd' : d = .agg [q0.1, q1.1, q2.1, q3.1] := (Prod.mk.inj hx).1
    rcases open_slice Try.underlying39 e2 with ⟨hcs, _⟩ | ⟨a, len, cap, m, k, D, Pl, hcs, _, hl, _, hm, hq, _⟩
    · injection hcs with h1 _
      injection h1 with _ h2 _
      omega
    · injection hcs with h1 _
      injection h1 with _ h2 _
      subst h2
      have hb : Try.prog.bytesOf 40 = 24 := by kernel_rfl
      have q := of_decide_eq_true (List.all_eq_true.1 hsz _ (DataW.weights_mem_each ht hd ((fn + (m - fn)) * Try.prog.bytesOf 40) (by
        rw [hd', hq]
        simp [DataW.weights, DataW.weightsEach, Try.underlying42, Try.underlying39])))
      rw [hb] at q
      have r : reachBytes = 140737488351232 := rfl
      omega
end Go.Proofs.Ytglgjkggjpfahaa
