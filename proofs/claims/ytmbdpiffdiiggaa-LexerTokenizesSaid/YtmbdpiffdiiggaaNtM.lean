/- The reference's parsing: the walks of ParseUint32 and DecodeHex; the law NumtextParses; no condition but sizes and the bytes' range. -/
import Derived.Test.YtmbdpiffdiiggaaNtL
import Derived.Deep.RegionWith
namespace Go.Proofs.Ytmbdpiffdiiggaa
open Go.RowKit
set_option linter.unusedVariables false

theorem toE_val {base : Int} {lim : Nat} {L : List Int} {v : Int} (h : toE base lim L = (v, true)) : valF base 0 L = v := by
  unfold toE at h
  split at h
  · injection h
  · injection h with _ h; cases h
set_option maxHeartbeats 1000000 in
theorem rparseU_dec (w : World) (L : List Int) (hl : L.length ≤ 1000000) (hL : ∀ x ∈ L, 0 ≤ x ∧ x ≤ 255) (hx : ¬ (2 ≤ L.length ∧ L.take 2 = [48, 120])) :
    Calls Try.prog 70 #[.string (strOf L)] w (RetQ (.tuple #[.int .u32 (prU L).1, .bool (prU L).2]) w none fun _ => True) := by
  have HL := Lib.hid hL
  have HR := Lib.hid (show prU L = prUd L by unfold prU; rw [if_neg hx])
  have z := strOf_size L
  have x1 := strOf_cut L 0 2
  rw [List.drop_zero, Nat.sub_zero] at x1
  have hr := toE_range 10 (Or.inl rfl) 10 (by decide) L
  have H1 := Lib.hid (fun w => rdec_any w L 10 (by decide) hl hL)
  obtain ⟨v, ok, hvo⟩ : ∃ v ok, toE 10 10 L = (v, ok) := ⟨_, _, rfl⟩
  have HVO := Lib.hid hvo
  rw [hvo] at hr H1
  clear hvo
  have q : 2 ≤ L.length → ((strOf (L.take 2)).toList == (ByteArray.mk #[48, 120]).toList) = false := by
    intro h2
    rw [show (ByteArray.mk #[48, 120]) = strOf [48, 120] from rfl]
    exact strOf_ne (fun x hx => hL x (List.mem_of_mem_take hx)) (by decide) (fun e => hx ⟨h2, e⟩)
  obtain ⟨r, hrr⟩ : ∃ r, r = strOf L := ⟨_, rfl⟩
  rw [← hrr] at z x1 H1 ⊢
  have HRr := Lib.hid hrr
  obtain ⟨p, hp⟩ : ∃ p, p = strOf (L.take 2) := ⟨_, rfl⟩
  rw [← hp] at q x1
  clear hL hrr hp hx
  by_cases h2 : 2 ≤ L.length
  · have q2 := q h2
    have q3 : (p.toList == [48, 120]) = false := by
      have k := q2
      rw [show (ByteArray.mk #[48, 120]).toList = [48, 120] from ByteArray.toList_mk [48, 120]] at k
      exact k
    have i2 : (2 : Int) ≤ L.length := by omega
    clear q
    go_enter Try.func70, Try.ntmps70
    go_wp2_with fail
    refine (H1.out w).mono ?_
    rintro e w4 ⟨rfl, rfl⟩
    cases ok with
    | false =>
      go_wp2
      go_ret2
      refine ⟨?_, gb_refl _ _, trivial⟩
      rw [HR.out]
      unfold prUd
      rw [HVO.out, if_neg (by simp)]
      rfl
    | true =>
      by_cases hb : 4294967295 < v
      · have HE := Lib.hid (show ¬ dec (v % 4294967296) = L by
          intro e
          have k := toE_val HVO.out
          rw [← e] at k
          have k2 := valF_dec 19 (v % 4294967296) (by omega) (dec_lt _ (by omega))
          have k3 : valF 10 0 (dec (v % 4294967296)) = v % 4294967296 := k2
          omega)
        go_wp2
        go_ret2
        refine ⟨?_, gb_refl _ _, trivial⟩
        rw [HR.out]
        unfold prUd
        rw [HVO.out, if_neg (fun hh => HE.out hh.2)]
        rfl
      · have em : v % 4294967296 = v := by omega
        go_wp2_with fail
        refine (dgt_any w v (by omega) (by omega)).mono ?_
        rintro e w5 ⟨rfl, g5, _⟩
        have G5 := Lib.hid g5
        clear g5
        by_cases he : dec v = L
        · have q7 := not_str_eq he
          have q1 := strOf_eq he
          rw [← HRr.out] at q7 q1
          have HE := Lib.hid he
          clear he
          go_wp2
          go_ret2
          refine ⟨?_, G5.out, trivial⟩
          rw [HR.out]
          unfold prUd
          rw [HVO.out]
          simp only [em]
          rw [if_pos ⟨trivial, HE.out⟩]
          rfl
        · have q7 := not_str_ne (dec_range _ (by omega)) HL.out he
          have q1 := strOf_ne (dec_range _ (by omega)) HL.out he
          rw [← HRr.out] at q7 q1
          have HE := Lib.hid he
          clear he
          go_wp2
          go_ret2
          refine ⟨?_, G5.out, trivial⟩
          rw [HR.out]
          unfold prUd
          rw [HVO.out]
          simp only [em]
          rw [if_neg (fun hh => HE.out hh.2)]
          rfl
  · have i2 : ¬ (2 : Int) ≤ L.length := by omega
    clear q
    go_enter Try.func70, Try.ntmps70
    go_wp2_with fail
    refine (H1.out w).mono ?_
    rintro e w4 ⟨rfl, rfl⟩
    cases ok with
    | false =>
      go_wp2
      go_ret2
      refine ⟨?_, gb_refl _ _, trivial⟩
      rw [HR.out]
      unfold prUd
      rw [HVO.out, if_neg (by simp)]
      rfl
    | true =>
      by_cases hb : 4294967295 < v
      · have HE := Lib.hid (show ¬ dec (v % 4294967296) = L by
          intro e
          have k := toE_val HVO.out
          rw [← e] at k
          have k2 := valF_dec 19 (v % 4294967296) (by omega) (dec_lt _ (by omega))
          have k3 : valF 10 0 (dec (v % 4294967296)) = v % 4294967296 := k2
          omega)
        go_wp2
        go_ret2
        refine ⟨?_, gb_refl _ _, trivial⟩
        rw [HR.out]
        unfold prUd
        rw [HVO.out, if_neg (fun hh => HE.out hh.2)]
        rfl
      · have em : v % 4294967296 = v := by omega
        go_wp2_with fail
        refine (dgt_any w v (by omega) (by omega)).mono ?_
        rintro e w5 ⟨rfl, g5, _⟩
        have G5 := Lib.hid g5
        clear g5
        by_cases he : dec v = L
        · have q7 := not_str_eq he
          have q1 := strOf_eq he
          rw [← HRr.out] at q7 q1
          have HE := Lib.hid he
          clear he
          go_wp2
          go_ret2
          refine ⟨?_, G5.out, trivial⟩
          rw [HR.out]
          unfold prUd
          rw [HVO.out]
          simp only [em]
          rw [if_pos ⟨trivial, HE.out⟩]
          rfl
        · have q7 := not_str_ne (dec_range _ (by omega)) HL.out he
          have q1 := strOf_ne (dec_range _ (by omega)) HL.out he
          rw [← HRr.out] at q7 q1
          have HE := Lib.hid he
          clear he
          go_wp2
          go_ret2
          refine ⟨?_, G5.out, trivial⟩
          rw [HR.out]
          unfold prUd
          rw [HVO.out]
          simp only [em]
          rw [if_neg (fun hh => HE.out hh.2)]
          rfl
theorem rparseU_any (w : World) (L : List Int) (hl : L.length ≤ 1000000) (hL : ∀ x ∈ L, 0 ≤ x ∧ x ≤ 255) :
    Calls Try.prog 70 #[.string (strOf L)] w (RetQ (.tuple #[.int .u32 (prU L).1, .bool (prU L).2]) w none fun _ => True) := by
  by_cases hx : 2 ≤ L.length ∧ L.take 2 = [48, 120]
  · exact rparseU_hex w L hl hL hx
  · exact rparseU_dec w L hl hL hx
end Go.Proofs.Ytmbdpiffdiiggaa
