/- Hexadecimal text as bytes: the walks of nextByte and DecodeHex; no condition but sizes and the bytes' range. -/
import Derived.Test.YtplhhjbmegaiiaaNtF
namespace Go.Proofs.Ytplhhjbmegaiiaa
open Go.RowKit
set_option linter.unusedVariables false

theorem or_hex (h l : Int) (h0 : 0 ≤ h) (h1 : h < 16) (l0 : 0 ≤ l) (l1 : l < 16) : bits .or .u64 (h * 16) l = h * 16 + l :=
  bits_join .u64 32 (by decide) (fun n a b => by rw [IntKind.wrap_u64]; omega) 4 (h * 16) l (by omega) (by simp) (by simp; omega) l0 (by simp; omega) (by simp; omega)

/-- The call answers no byte. -/
def NoByte (w : World) (b : Nat) (e : Ending) (w' : World) : Prop := ∃ c, e = .returned (.tuple #[.int .u8 c, .bool false]) ∧ w.grownBy w' (some b)
set_option maxHeartbeats 1000000 in
theorem nb_yes (w : World) (b : Nat) (L : List Int) (o : Nat) (h : IsB w b 64 #[.string (strOf L), .int .i64 o]) (hl : L.length ≤ 1000000) (hL : ∀ x ∈ L, 0 ≤ x ∧ x ≤ 255) (ho : o + 1 < L.length)
    (h1 : dv (L.getD o 0) < 16) (h2 : dv (L.getD (o + 1) 0) < 16) :
    Calls Try.prog 44 #[.pointer (some ⟨b, 0, none⟩)] w fun e w' => e = .returned (.tuple #[.int .u8 (dv (L.getD o 0) * 16 + dv (L.getD (o + 1) 0)), .bool true]) ∧ w.grownBy w' (some b) ∧ IsB w' b 64 #[.string (strOf L), .int .i64 ((o + 2 : Nat) : Int)] := by
  have hmf : ∀ (fn : Fn) (first cap : Array Value) (w : World), (Instr.makeFunc fn first cap).run Try.prog w = .ok (.func fn first cap) w := fun _ _ _ _ => rfl
  have H1 := Lib.hid (digit_yes w b _ _ L o 16 ⟨h, rfl, rfl, by omega⟩ hl hL (by omega) h1)
  have H2 := Lib.hid (fun (w2 : World) (q : Cur w2 b 64 #[.string (strOf L), .int .i64 ((o + 1 : Nat) : Int)] L (o + 1)) => digit_yes w2 b _ _ L (o + 1) 16 q hl hL ho h2)
  have r1 := dv_range (L.getD o 0)
  have r2 := dv_range (L.getD (o + 1) 0)
  generalize dv (L.getD o 0) = x at *
  generalize dv (L.getD (o + 1) 0) = y at *
  have eo := or_hex x y r1.1 h1 r2.1 h2
  clear h
  go_enter Try.func44, Try.ntmps44
  go_wp2_with fail
  refine H1.out.mono ?_
  rintro e w1 ⟨rfl, g1, q1⟩
  have G1 := Lib.hid g1
  have H3 := Lib.hid (H2.out w1 q1)
  clear g1 q1 H1 H2
  go_wp2_with fail
  refine H3.out.mono ?_
  rintro e w2 ⟨rfl, g2, q2⟩
  have G2 := Lib.hid (gb_trans G1.out g2)
  have B2 := Lib.hid (show IsB w2 b 64 #[.string (strOf L), .int .i64 ((o + 2 : Nat) : Int)] from q2.blk)
  clear g2 q2 H3
  go_wp2
  go_ret2
  exact ⟨rfl, G2.out, B2.out⟩
set_option maxHeartbeats 1000000 in
theorem nb_no (w : World) (b : Nat) (L : List Int) (o : Nat) (h : IsB w b 64 #[.string (strOf L), .int .i64 o]) (hl : L.length ≤ 1000000) (hL : ∀ x ∈ L, 0 ≤ x ∧ x ≤ 255) (ho : o < L.length)
    (hn : ¬ (dv (L.getD o 0) < 16 ∧ o + 1 < L.length ∧ dv (L.getD (o + 1) 0) < 16)) :
    Calls Try.prog 44 #[.pointer (some ⟨b, 0, none⟩)] w (NoByte w b) := by
  have hmf : ∀ (fn : Fn) (first cap : Array Value) (w : World), (Instr.makeFunc fn first cap).run Try.prog w = .ok (.func fn first cap) w := fun _ _ _ _ => rfl
  by_cases h1 : dv (L.getD o 0) < 16
  · have H1 := Lib.hid (digit_yes w b _ _ L o 16 ⟨h, rfl, rfl, by omega⟩ hl hL ho h1)
    have H2 := Lib.hid (fun (w2 : World) (q : Cur w2 b 64 #[.string (strOf L), .int .i64 ((o + 1 : Nat) : Int)] L (o + 1)) => digit_no w2 b _ _ L (o + 1) 16 q hl hL (fun h2 h3 => hn ⟨h1, h2, h3⟩))
    have r1 := dv_range (L.getD o 0)
    clear hn
    generalize dv (L.getD o 0) = x at *
    have eo := or_hex x 0 r1.1 h1 (Int.le_refl _) (by decide)
    clear h
    go_enter Try.func44, Try.ntmps44
    go_wp2_with fail
    refine H1.out.mono ?_
    rintro e w1 ⟨rfl, g1, q1⟩
    have G1 := Lib.hid g1
    have H3 := Lib.hid (H2.out w1 q1)
    clear g1 q1 H1 H2
    go_wp2_with fail
    refine H3.out.mono ?_
    rintro e w2 ⟨rfl, g2, _⟩
    have G2 := Lib.hid (gb_trans G1.out (gb_any g2))
    clear g2 H3
    go_wp2
    go_ret2
    exact ⟨_, rfl, G2.out⟩
  · have H1 := Lib.hid (digit_no w b _ _ L o 16 ⟨h, rfl, rfl, by omega⟩ hl hL (fun _ => h1))
    clear hn h1 h
    go_enter Try.func44, Try.ntmps44
    go_wp2_with fail
    refine H1.out.mono ?_
    rintro e w1 ⟨rfl, g1, _⟩
    have G1 := Lib.hid (gb_any (row := some b) g1)
    clear g1 H1
    go_wp2
    go_ret2
    exact ⟨_, rfl, G1.out⟩

def decX : List Int → Option (List Int)
  | [] => some []
  | [_] => none
  | a :: b :: t => if dv a < 16 ∧ dv b < 16 then (decX t).map ((dv a * 16 + dv b) :: ·) else none
theorem decX_range : ∀ (L M : List Int), decX L = some M → ∀ x ∈ M, 0 ≤ x ∧ x ≤ 255
  | [], M, h => by simp [decX] at h; subst h; simp
  | [_], M, h => by simp [decX] at h
  | a :: b :: t, M, h => by
    unfold decX at h
    split at h
    · rename_i hd
      rw [Option.map_eq_some_iff] at h
      obtain ⟨N, hN, rfl⟩ := h
      have ha := dv_range a
      have hb := dv_range b
      intro x hx
      rcases List.mem_cons.1 hx with e | e
      · omega
      · exact decX_range t N hN x e
    · cases h
/-- What DecodeHex answers. -/
def RetD (R : Option (List Int)) (w : World) (e : Ending) (w' : World) : Prop := ∃ V, e = .returned (.tuple #[V, .bool R.isSome]) ∧ BL w' w.heap.size V (R.getD []) ∧ w.grownBy w' none
def offOf (w : World) (g : Nat) : Nat := match w.cell? ⟨g, 1, none⟩ with
  | some v => (intOf v).toNat
  | none => 0
theorem offOf_at {w : World} {g : Nat} {t : TypeId} {o : Nat} {x : Value} (h : IsB w g t #[x, .int .i64 o]) : offOf w g = o := by
  unfold offOf
  have c0 : w.cell? ⟨g, 1, none⟩ = some (.int .i64 o) := h.cell 1
  rw [c0]
  show ((o : Int)).toNat = o
  omega
set_option maxRecDepth 100000 in
set_option maxHeartbeats 2000000 in
theorem decode_any (w : World) (L : List Int) (hl : L.length ≤ 100000) (hL : ∀ x ∈ L, 0 ≤ x ∧ x ≤ 255) :
    Calls Try.prog 24 #[.string (strOf L)] w (RetD (decX L) w) := by
  have HL := Lib.hid hL
  clear hL
  go_enter Try.func24, Try.ntmps24
  go_wp2_with (fail)
  have B0 := Lib.hid (IsB.new w 64 #[.string (strOf L), .int .i64 0])
  have G0 := Lib.hid (gb_alloc w (.cells #[.string (strOf L), .int .i64 0] 64) none)
  generalize w.alloc (.cells #[.string (strOf L), .int .i64 0] 64) = w1 at *
  go_loopw [5] (fun v wr => ∃ (o : Nat) (A : List Int), o ≤ L.length ∧ IsB wr w.heap.size 64 #[.string (strOf L), .int .i64 o] ∧ BL wr w.heap.size v A ∧ A.length ≤ o ∧ decX L = (decX (L.drop o)).map (A ++ ·) ∧ w.grownBy wr none) (fun _ wr => L.length - offOf wr w.heap.size)
  case atStart => exact ⟨0, [], Nat.zero_le _, B0.out, BL.nil _ _, Nat.le_refl _, by simp, G0.out⟩
  case round =>
    obtain ⟨o, A, hoL, hb, hv, hA, hd, hg⟩ := hrel
    have HB := Lib.hid hb
    have HV := Lib.hid hv
    have HD := Lib.hid hd
    have HG := Lib.hid hg
    have SZ := Lib.hid hg.size
    clear hb hv hd hg B0 G0
    have HU := Lib.hid (unread_any wr w.heap.size _ _ L o ⟨HB.out, rfl, rfl, hoL⟩ (by omega))
    by_cases hlt : o < L.length
    · rw [drop_head L o hlt] at HU
      have n1 := strOf_full (L.getD o 0) (L.drop (o + 1))
      obtain ⟨r, hr⟩ : ∃ r, r = strOf (L.getD o 0 :: L.drop (o + 1)) := ⟨_, rfl⟩
      rw [← hr] at HU n1
      have n2 : (r.toList == ([] : List UInt8)) = false := by rw [beq_eq_false_iff_ne]; exact n1
      have n3 : r.toList.isEmpty = false := by rw [List.isEmpty_eq_false_iff]; exact n1
      have n4 : (!(r.toList == ([] : List UInt8))) = true := by rw [n2]; rfl
      have n5 : (!r.toList.isEmpty) = true := by rw [n3]; rfl
      clear hr
      by_cases hyes : dv (L.getD o 0) < 16 ∧ o + 1 < L.length ∧ dv (L.getD (o + 1) 0) < 16
      · have HE := Lib.hid (show decX (L.drop o) = (decX (L.drop (o + 2))).map ((dv (L.getD o 0) * 16 + dv (L.getD (o + 1) 0)) :: ·) by
          rw [drop_head L o hlt, drop_head L (o + 1) hyes.2.1]
          show (if dv (L.getD o 0) < 16 ∧ dv (L.getD (o + 1) 0) < 16 then _ else _) = _
          rw [if_pos ⟨hyes.1, hyes.2.2⟩])
        have ho2 := hyes.2.1
        have H1 := Lib.hid (fun (w2 : World) (q : IsB w2 w.heap.size 64 #[.string (strOf L), .int .i64 o]) => nb_yes w2 w.heap.size L o q (by omega) HL.out hyes.2.1 hyes.1 hyes.2.2)
        clear hyes
        generalize dv (L.getD o 0) * 16 + dv (L.getD (o + 1) 0) = x at *
        go_wp2_with fail
        refine HU.out.mono ?_
        rintro e w2 ⟨rfl, g2, _⟩
        have B2 := Lib.hid (HB.out.keep0 g2)
        have V2 := Lib.hid (HV.out.keep0 g2)
        have G2 := Lib.hid (gb_trans HG.out g2)
        have H2 := Lib.hid (H1.out w2 B2.out)
        clear g2 HU H1
        go_wp2_with fail
        refine H2.out.mono ?_
        rintro e w3 ⟨rfl, g3, b3⟩
        have B3 := Lib.hid b3
        have V3 := Lib.hid (show BL w3 w.heap.size _ A from own_keepS V2.out g3 B2.out (by decide))
        have G3 := Lib.hid (gb_new (gb_trans (gb_any G2.out) g3) (Nat.le_refl _))
        clear g3 b3 H2 B2 V2 G2
        go_wp2_with (at_builtin; refine push_any rfl _ _ rfl w.heap.size _ A rfl (V3.out.keep0 (gb_alloc _ _ _)) _ _ _ [_] rfl (slr_one _ _ _ _ _ rfl) (by simp; omega) (by have := G3.out.size; simp; omega) ?_)
        intro V4 w4 o4 g4 _
        have O4 := Lib.hid o4
        have G4 := Lib.hid (gb_own (gb_trans G3.out (gb_alloc _ _ _)) (V3.out.keep0 (gb_alloc _ _ _)) (Nat.le_refl _) g4)
        have B4 := Lib.hid (show IsB w4 w.heap.size 64 #[.string (strOf L), .int .i64 ((o + 2 : Nat) : Int)] from (B3.out.alloc _).keep g4 (fun e => own_ne V3.out B3.out (by decide) e.symm))
        clear o4 g4 B3 V3 G3
        go_wp2
        go_roundw
        case rel => exact ⟨o + 2, A ++ [x], by omega, B4.out, O4.out, by simp; omega, by rw [HD.out, HE.out]; cases decX (L.drop (o + 2)) <;> simp, G4.out⟩
        case measure => rw [offOf_at B4.out, offOf_at HB.out]; omega
      · have HE := Lib.hid (show decX L = none by
          rw [HD.out, drop_head L o hlt]
          by_cases h2 : o + 1 < L.length
          · rw [drop_head L (o + 1) h2]
            show Option.map _ (if dv (L.getD o 0) < 16 ∧ dv (L.getD (o + 1) 0) < 16 then _ else _) = _
            rw [if_neg (fun hh => hyes ⟨hh.1, h2, hh.2⟩)]
            rfl
          · rw [List.drop_eq_nil_of_le (by omega)]; rfl)
        have H1 := Lib.hid (fun (w2 : World) (q : IsB w2 w.heap.size 64 #[.string (strOf L), .int .i64 o]) => nb_no w2 w.heap.size L o q (by omega) HL.out hlt hyes)
        clear hyes
        go_wp2_with fail
        refine HU.out.mono ?_
        rintro e w2 ⟨rfl, g2, _⟩
        have B2 := Lib.hid (HB.out.keep0 g2)
        have G2 := Lib.hid (gb_trans HG.out g2)
        have H2 := Lib.hid (H1.out w2 B2.out)
        clear g2 HU H1
        go_wp2_with fail
        refine H2.out.mono ?_
        rintro e w3 ⟨c, rfl, g3⟩
        have G3 := Lib.hid (gb_new (gb_trans (gb_any G2.out) g3) (Nat.le_refl _))
        clear g3 H2 B2 G2
        go_wp2
        go_ret2
        refine ⟨.slice none 0 0, ?_, ?_, G3.out⟩
        · rw [HE.out]; rfl
        · rw [HE.out]; exact BL.nil _ _
    · have hoe : L.drop o = [] := List.drop_eq_nil_of_le (by omega)
      rw [hoe] at HU
      have HE := Lib.hid (show decX L = some A by rw [HD.out, hoe]; simp [decX])
      have e0 : strOf [] = ⟨#[]⟩ := rfl
      rw [e0] at HU
      clear e0 hoe
      go_wp2_with fail
      refine HU.out.mono ?_
      rintro e w2 ⟨rfl, g2, _⟩
      have V2 := Lib.hid (HV.out.keep0 g2)
      have G2 := Lib.hid (gb_trans HG.out g2)
      clear g2 HU
      go_wp2
      go_ret2
      unfold RetD
      rw [HE.out]
      exact ⟨_, rfl, V2.out, G2.out⟩
end Go.Proofs.Ytplhhjbmegaiiaa
