/- Wheels: the reference's Skews. -/
import Derived.Test.YtecmlakcpgkfbaaAre3
namespace Go.Proofs.Ytecmlakcpgkfbaa
open Go.RowKit
set_option maxRecDepth 100000 in
set_option maxHeartbeats 8000000 in
theorem Skews3_no (full read slip skew circ glo ghi wrn : Int) (ws : List Wh.Wk) (A : Option Addr) (c : Nat) (w : World) (P : List Wh.Tr) (E : Int) (hE : E ≠ 0) (HKN : Hid (∀ W, Below w.heap.size w W → Calls Try.prog 57 #[.agg #[.int .i64 full, .int .i64 read, .int .i64 slip, .int .i64 skew, .int .i64 circ, .int .i64 glo, .int .i64 ghi, .int .i64 wrn], .slice A ws.length c, .bool true] W (PrsEPost P E W))) : Calls Try.prog 26 #[.agg #[.int .i64 full, .int .i64 read, .int .i64 slip, .int .i64 skew, .int .i64 circ, .int .i64 glo, .int .i64 ghi, .int .i64 wrn], .slice A ws.length c] w (IntsEPost [] E w) := by
  have hcb : (E == 0) = false := by simpa using hE
  unfold PrsEPost at HKN
  go_enter Try.func26, Try.ntmps26
  go_wp2_with fail
  have hB1 : Below w.heap.size w (w.alloc (.cells #[.int .i64 full, .int .i64 read, .int .i64 slip, .int .i64 skew, .int .i64 circ, .int .i64 glo, .int .i64 ghi, .int .i64 wrn] 25)) := by (repeat' (first | (with_reducible exact Below.refl _ _) | (with_reducible assumption) | (with_reducible refine Below.alloc ?_ ?_ _) | (with_reducible refine Below.drew ?_) | (with_reducible refine Below.setCell ?_ ?_ _) | go_size | (exact (by simp)) | omega))
  have bS1 := BoxS.new w 25 #[.int .i64 full, .int .i64 read, .int .i64 slip, .int .i64 skew, .int .i64 circ, .int .i64 glo, .int .i64 ghi, .int .i64 wrn]
  generalize World.alloc w _ = w1 at *
  refine (HKN.out _ hB1).mono ?_
  rintro e w3 ⟨A3, c3, rfl, hP3, hb3⟩
  have bS3 := bS1.below hb3
  have hB3 := hB1.trans (hb3.mono hB1.size)
  clear bS1 hb3 hB1 HKN
  obtain ⟨⟨⟨s0, s1, s2⟩, s3, s4, s5⟩, s6, s7⟩ := boxS8 bS3
  have lS := bS3.lt
  go_wp2_with fail
  go_returns
  exact ⟨_, rfl, .inl ⟨rfl, rfl⟩, hB3⟩
set_option maxRecDepth 100000 in
set_option maxHeartbeats 8000000 in
theorem Skews3_yes (full read slip skew circ glo ghi wrn : Int) (ws : List Wh.Wk) (A : Option Addr) (c : Nat) (w : World) (P : List Wh.Tr) (nb : Nat) (SK : Nat → List Int) (hsk : 0 ≤ skew ∧ skew ≤ 1000) (hnb : -skew + (nb : Int) = skew + 1) (hl : P.length ≤ 90000) (HKN : Hid (∀ W, Below w.heap.size w W → Calls Try.prog 57 #[.agg #[.int .i64 full, .int .i64 read, .int .i64 slip, .int .i64 skew, .int .i64 circ, .int .i64 glo, .int .i64 ghi, .int .i64 wrn], .slice A ws.length c, .bool true] W (PrsEPost P 0 W))) (HS0 : Hid (SK 0 = [])) (HLN : Hid (∀ j, (SK j).length ≤ j))
    (HSY : Hid (∀ j m, j < nb → m < P.length → (Wh.trAt P m).2 = -skew + (j : Int) → SK (j + 1) = SK j ++ [-skew + (j : Int)])) (HSN : Hid (∀ j, j < nb → (∀ m, m < P.length → (Wh.trAt P m).2 ≠ -skew + (j : Int)) → SK (j + 1) = SK j)) :
    Calls Try.prog 26 #[.agg #[.int .i64 full, .int .i64 read, .int .i64 slip, .int .i64 skew, .int .i64 circ, .int .i64 glo, .int .i64 ghi, .int .i64 wrn], .slice A ws.length c] w (IntsEPost (SK nb) 0 w) := by
  have hwn : IntKind.i64.wrap (-skew) = -skew := IntWalk.i64_in _ (by omega)
  unfold PrsEPost at HKN
  go_enter Try.func26, Try.ntmps26
  go_wp2_with fail
  have hB1 : Below w.heap.size w (w.alloc (.cells #[.int .i64 full, .int .i64 read, .int .i64 slip, .int .i64 skew, .int .i64 circ, .int .i64 glo, .int .i64 ghi, .int .i64 wrn] 25)) := by (repeat' (first | (with_reducible exact Below.refl _ _) | (with_reducible assumption) | (with_reducible refine Below.alloc ?_ ?_ _) | (with_reducible refine Below.drew ?_) | (with_reducible refine Below.setCell ?_ ?_ _) | go_size | (exact (by simp)) | omega))
  have bS1 := BoxS.new w 25 #[.int .i64 full, .int .i64 read, .int .i64 slip, .int .i64 skew, .int .i64 circ, .int .i64 glo, .int .i64 ghi, .int .i64 wrn]
  generalize World.alloc w _ = w1 at *
  refine (HKN.out _ hB1).mono ?_
  rintro e w3 ⟨A3, c3, rfl, hP3, hb3⟩
  have bS3 := bS1.below hb3
  have hB3 := hB1.trans (hb3.mono hB1.size)
  clear bS1 hb3 hB1 HKN
  obtain ⟨⟨⟨s0, s1, s2⟩, s3, s4, s5⟩, s6, s7⟩ := boxS8 bS3
  have lS := bS3.lt
  go_wp2_with fail
  obtain ⟨wb, hwb⟩ : ∃ wb, wb = w3 := ⟨_, rfl⟩
  have hbb : Below wb.heap.size wb w3 := by rw [hwb]; exact Below.refl _ _
  have hPb : Hid (Prs wb wb.heap.size A3 P) := by rw [hwb]; exact hP3
  have hzb : w.heap.size < wb.heap.size := by rw [hwb]; exact bS3.lt
  have hBb : Below w.heap.size w wb := by rw [hwb]; exact hB3
  have bSb : BoxS wb w.heap.size 25 #[.int .i64 full, .int .i64 read, .int .i64 slip, .int .i64 skew, .int .i64 circ, .int .i64 glo, .int .i64 ghi, .int .i64 wrn] := by rw [hwb]; exact bS3
  have lb := bSb.lt
  clear hwb hP3 s0 s1 s2 s3 s4 s5 s6 s7 lS
  go_loopg [8, 9, 10] nb (fun g x8 x9 x10 wx => ∃ j : Nat, Hid (j + g = nb) ∧ (j : Int) ≤ nb ∧ x9 = .int .i64 (-skew + (j : Int)) ∧ Below wb.heap.size wb wx ∧ wx.ownsRow wb.heap.size 3 1 x8 (SK j).length ((SK j).map (Value.int .i64)))
  case atStart => exact ⟨0, by simp [Hid], by omega, by simp, hbb, by rw [HS0.out]; exact owni_nil _ _⟩
  case round =>
    clear hB3 hbb bS3
    obtain ⟨j, hj, hj1, rfl, hbb, hown⟩ := hrel
    have hj0 := Int.natCast_nonneg j
    have bS := bSb.below hbb
    have lS := bS.lt
    obtain ⟨⟨⟨s0, s1, s2⟩, s3, s4, s5⟩, s6, s7⟩ := boxS8 bS
    by_cases hlt : (j : Int) < nb
    · have hle : -skew + (j : Int) ≤ skew := by omega
      have hjn : j < nb := by omega
      have HO := Lib.hid hown
      have hln := HLN.out j
      have HY1 := Lib.hid (fun m => HSY.out j m hjn)
      have HN1 := Lib.hid (HSN.out j hjn)
      have hw9 : IntKind.i64.wrap (-skew + (j : Int) + 1) = -skew + (j : Int) + 1 := IntWalk.i64_in _ (by omega)
      clear hown hlt HSY HSN
      obtain ⟨x, hx⟩ : ∃ x, x = -skew + (j : Int) := ⟨_, rfl⟩
      rw [← hx] at hle hw9 HY1 HN1 ⊢
      have HX := Lib.hid hx
      clear hx
      go_wp2_with fail
      obtain ⟨gko, rfl⟩ : ∃ gko, gko = gk := ⟨_, rfl⟩
      obtain ⟨wq, rfl⟩ : ∃ wq, wq = wr := ⟨_, rfl⟩
      clear s0 s1 s2 s3 s4 s5 s6 s7
      go_loopg [8, 10] P.length (fun g x8 x10 wx => ∃ i : Nat, Hid (i + g = P.length) ∧ (i : Int) ≤ P.length ∧ x10 = .int .i64 (i : Int) ∧ Hid (∀ m, m < i → (Wh.trAt P m).2 ≠ x) ∧ wx = wq ∧ wx.ownsRow wb.heap.size 3 1 x8 (SK j).length ((SK j).map (Value.int .i64)))
      case atStart => exact ⟨0, by simp [Hid], by omega, rfl, (fun m h => by omega), rfl, HO.out⟩
      case round =>
        clear HO
        obtain ⟨i, hi, hi1, rfl, hno, hwe, hown⟩ := hrel
        subst hwe
        have HO := Lib.hid hown
        clear hown
        have hi0 := Int.natCast_nonneg i
        by_cases hlt : (i : Int) < P.length
        · have hin : i < P.length := by omega
          have hPk : P[i]? = some (Wh.trAt P i) := by unfold Wh.trAt; rw [List.getElem?_eq_getElem hin]; rfl
          obtain ⟨bp, op, rfl, hbp, hcp⟩ := hPb.out (by omega)
          obtain ⟨_, h1⟩ := hcp i _ hPk
          have a1 := (hbb.cell (p := ⟨bp, _, none⟩) hbp).trans h1
          have HY2 := Lib.hid (HY1.out i hin)
          have hw1 : IntKind.i64.wrap ((i : Int) + 1) = (i : Int) + 1 := IntWalk.i64_in _ (by omega)
          have HQ : Hid (∀ m, m < i + 1 → (Wh.trAt P i).2 ≠ x → (Wh.trAt P m).2 ≠ x) := fun m hm h => by
            rcases Nat.lt_or_eq_of_le (Nat.lt_succ_iff.1 hm) with h2 | h2
            · exact hno.out m h2
            · subst h2; exact h
          clear hcp hPk h1 hno
          generalize Wh.trAt P i = q at *
          obtain ⟨q1, q2⟩ := q
          dsimp only at a1 HY2 HQ
          by_cases hq : q2 = x
          · have hqb : (q2 == x) = true := by simpa using hq
            have HY3 := Lib.hid (HY2.out hq)
            clear hq HY2 HQ
            have hlb := hbb.size
            go_wp2_with (at_builtin; refine wpList_pushi rfl (.tmp 42) (.tmp 44) rfl x wb.heap.size _ _ _ rfl rfl HO.out (by omega) (by omega) ?_; intro v' w5 hown5 hb5; have HO5 := Lib.hid hown5; clear hown5)
            obtain ⟨g', hg'⟩ : ∃ g', gko = g' + 1 := ⟨gko - 1, by have := hj.out; omega⟩
            go_roundg g'
            case measure => omega
            case rel =>
              refine ⟨j + 1, by have := hj.out; simp only [Hid]; omega, by omega, by rw [HX.out]; simp; omega, hbb.trans hb5, ?_⟩
              rw [HY3.out, List.length_append, List.map_append]
              exact HO5.out
          · have hqb : (q2 == x) = false := by simpa using hq
            have HQ2 : Hid (∀ m, m < i + 1 → (Wh.trAt P m).2 ≠ x) := fun m hm => HQ.out m hm hq
            clear hq HY2 HQ
            go_wp2_with fail
            obtain ⟨g', hg'⟩ : ∃ g', gk = g' + 1 := ⟨gk - 1, by have := hi.out; omega⟩
            go_roundg g'
            case measure => omega
            case rel => exact ⟨i + 1, by have := hi.out; simp only [Hid]; omega, by omega, by go_num, HQ2, rfl, HO.out⟩
        · have e : i = P.length := by omega
          have HE := Lib.hid (HN1.out (by rw [← e]; exact hno.out))
          clear e hno
          go_wp2_with fail
          obtain ⟨g', hg'⟩ : ∃ g', gko = g' + 1 := ⟨gko - 1, by have := hj.out; omega⟩
          go_roundg g'
          case measure => omega
          case rel => exact ⟨j + 1, by have := hj.out; simp only [Hid]; omega, by omega, by rw [HX.out]; simp; omega, hbb, by rw [HE.out]; exact HO.out⟩
    · have e : j = nb := by omega
      have hle : ¬ -skew + (j : Int) ≤ skew := by omega
      have hI := Lib.hid (Ints.of_own hown)
      rw [e] at hI
      have hBr := hBb.trans (hbb.mono hBb.size)
      clear hown hlt e
      go_wp2_with fail
      go_returns
      exact ⟨_, rfl, hI, hBr⟩
namespace Wh
def skTo (P : List Tr) (a : Int) : Nat → List Int
  | 0 => []
  | j + 1 => if P.any (fun t => t.2 == a + (j : Int)) then skTo P a j ++ [a + (j : Int)] else skTo P a j
theorem skTo_succ (P : List Tr) (a : Int) (j : Nat) : skTo P a (j + 1) = if P.any (fun t => t.2 == a + (j : Int)) then skTo P a j ++ [a + (j : Int)] else skTo P a j := rfl
theorem any_iff (P : List Tr) (x : Int) : P.any (fun t => t.2 == x) = true ↔ ∃ t ∈ P, t.2 = x := by
  rw [List.any_eq_true]
  constructor
  · rintro ⟨t, ht, e⟩; exact ⟨t, ht, by simpa using e⟩
  · rintro ⟨t, ht, e⟩; exact ⟨t, ht, by simpa using e⟩
theorem skTo_len (P : List Tr) (a : Int) : ∀ j, (skTo P a j).length ≤ j
  | 0 => Nat.le_refl _
  | j + 1 => by
    have := skTo_len P a j
    rw [skTo_succ]
    split
    · rw [List.length_append]; simp; omega
    · omega
theorem skTo_mem (P : List Tr) (a x : Int) : ∀ j, x ∈ skTo P a j ↔ (∃ i : Nat, i < j ∧ x = a + (i : Int)) ∧ ∃ t ∈ P, t.2 = x
  | 0 => by simp [skTo]
  | j + 1 => by
    have ih := skTo_mem P a x j
    rw [skTo_succ]
    by_cases h : P.any (fun t => t.2 == a + (j : Int)) = true
    · rw [if_pos h, List.mem_append, List.mem_singleton, ih]
      constructor
      · rintro (⟨⟨i, hi, e⟩, h2⟩ | rfl)
        · exact ⟨⟨i, by omega, e⟩, h2⟩
        · exact ⟨⟨j, by omega, rfl⟩, (any_iff P _).1 h⟩
      · rintro ⟨⟨i, hi, e⟩, h2⟩
        by_cases e2 : i = j
        · subst e2; exact .inr e
        · exact .inl ⟨⟨i, by omega, e⟩, h2⟩
    · rw [if_neg h, ih]
      constructor
      · rintro ⟨⟨i, hi, e⟩, h2⟩
        exact ⟨⟨i, by omega, e⟩, h2⟩
      · rintro ⟨⟨i, hi, e⟩, h2⟩
        refine ⟨⟨i, ?_, e⟩, h2⟩
        by_cases e2 : i = j
        · subst e2
          rw [e] at h2
          exact absurd ((any_iff P _).2 h2) h
        · omega
theorem skTo_asc (P : List Tr) (a : Int) : ∀ j, (skTo P a j).Pairwise (fun x y => x < y)
  | 0 => List.Pairwise.nil
  | j + 1 => by
    have ih := skTo_asc P a j
    rw [skTo_succ]
    split
    · rw [List.pairwise_append]
      refine ⟨ih, by simp, fun x hx y hy => ?_⟩
      rw [List.mem_singleton] at hy
      obtain ⟨⟨i, hi, e⟩, _⟩ := (skTo_mem P a x j).1 hx
      omega
    · exact ih
theorem skews_kn {d : Desk} (h0 : spE d = 0) : skewsV d = skTo (knL d true) (-d.skew) (nb d) := by
  have hd := ok_of (sp_ok h0).1
  have k1 := hd.k1
  have hN2 : -d.skew + ((nb d : Nat) : Int) = d.skew + 1 := by unfold nb; omega
  rw [kn_yes h0]
  unfold skewsV
  rw [if_pos h0]
  refine all_eq (fun t => t.2) _ (skTo_asc _ _ _) (fun x => ?_)
  rw [skTo_mem]
  constructor
  · rintro ⟨_, t, ht, e⟩
    unfold vals at ht
    obtain ⟨f, hf, rfl⟩ := List.mem_map.1 ht
    exact ⟨f, hf, e⟩
  · rintro ⟨f, hf, e⟩
    obtain ⟨⟨_, h1, h2⟩, _⟩ := (mem_truths hd f).1 hf
    refine ⟨⟨(x + d.skew).toNat, by omega, by omega⟩, f.1, ?_, e⟩
    unfold vals
    exact List.mem_map.2 ⟨f, hf, rfl⟩
end Wh
theorem Skews3_any (d : Wh.Desk) (A : Option Addr) (c : Nat) (w : World) (hl : d.ws.length ≤ 1000000000) (hz : Wh.okB d = true → (Wh.casesL d).length ≤ 90000) (hg : Wks w w.heap.size A d.ws) : Calls Try.prog 26 #[.agg (whV d), .slice A d.ws.length c] w (IntsEPost (Wh.skewsV d) (Wh.spE d) w) := by
  have HK := kn3_any d A c w hl hz hg
  by_cases h0 : Wh.spE d = 0
  · have hd := Wh.ok_of (Wh.sp_ok h0).1
    have k1 := hd.k1
    have k2 := hd.k2
    have hN2 : -d.skew + ((Wh.nb d : Nat) : Int) = d.skew + 1 := by unfold Wh.nb; omega
    rw [Wh.skews_kn h0]
    rw [h0] at HK ⊢
    exact Skews3_yes d.full d.read d.slip d.skew d.circ d.glo d.ghi d.wr d.ws A c w (Wh.knL d true) (Wh.nb d) (Wh.skTo (Wh.knL d true) (-d.skew)) ⟨k1, by omega⟩ hN2 (Wh.kn_small hz) HK rfl (Wh.skTo_len _ _) (fun j m _ hm e => by
      rw [Wh.skTo_succ, if_pos]
      refine (Wh.any_iff _ _).2 ⟨(Wh.knL d true)[m], List.getElem_mem hm, ?_⟩
      unfold Wh.trAt at e
      rw [List.getElem?_eq_getElem hm] at e
      exact e) (fun j _ hno => by
      rw [Wh.skTo_succ, if_neg]
      intro h
      obtain ⟨t, ht, e⟩ := (Wh.any_iff _ _).1 h
      obtain ⟨m, hm, e2⟩ := List.getElem_of_mem ht
      refine hno m hm ?_
      unfold Wh.trAt
      rw [List.getElem?_eq_getElem hm, e2]
      exact e)
  · have := Skews3_no d.full d.read d.slip d.skew d.circ d.glo d.ghi d.wr d.ws A c w _ _ h0 HK
    have e : Wh.skewsV d = [] := by unfold Wh.skewsV; rw [if_neg h0]
    rw [e]
    exact this
end Go.Proofs.Ytecmlakcpgkfbaa
