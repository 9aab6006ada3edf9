/- Walks: a walk backwards, and one that begins at another point. -/
import Derived.Test.YtmjcdggmofohcaaMor5
import Derived.Test.YtmjcdggmofohcaaMovC
namespace Go.Proofs.Ytmjcdggmofohcaa
open Go.RowKit
namespace Wl
theorem ptsTo_iffB {ps : List Pt} : ∀ n, ptsTo ps n = true ↔ ∀ k, k < n → Geo.ptB (ptAt ps k) = true
  | 0 => ⟨fun _ k h => by omega, fun _ => rfl⟩
  | n + 1 => by
    show (ptsTo ps n && Geo.ptB (ptAt ps n)) = true ↔ _
    rw [Bool.and_eq_true, ptsTo_iffB n]
    constructor
    · rintro ⟨h1, h2⟩ k hk
      by_cases e : k = n
      · subst e; exact h2
      · exact h1 k (by omega)
    · intro h
      exact ⟨fun k hk => h k (by omega), h n (by omega)⟩
theorem ptsB_of {ps qs : List Pt} (hl : qs.length = ps.length) (h : ptsB ps = true) (hp : ∀ k, k < qs.length → ∃ j, j < ps.length ∧ ptAt qs k = ptAt ps j) : ptsB qs = true := by
  unfold ptsB at h ⊢
  rw [Bool.and_eq_true] at h ⊢
  refine ⟨(ptsTo_iffB _).2 fun k hk => ?_, by rw [hl]; exact h.2⟩
  obtain ⟨j, hj, e⟩ := hp k hk
  rw [e]
  exact (ptsTo_iffB _).1 h.1 j hj
theorem ptsB_rev {ps : List Pt} (h : ptsB ps = true) : ptsB ps.reverse = true :=
  ptsB_of (List.length_reverse) h fun k hk => ⟨ps.length - 1 - k, by rw [List.length_reverse] at hk; omega, ptAt_rev (by rw [List.length_reverse] at hk; exact hk)⟩
theorem ptsB_rot {ps : List Pt} (b : Nat) (h : ptsB ps = true) : ptsB (rotW ps b) = true :=
  ptsB_of (rotL_len _ _ _) h fun k hk => by
    rw [rotL_len] at hk
    exact ⟨(k + b) % ps.length, Nat.mod_lt _ (by omega), ptAt_rot hk⟩
theorem chk_rev {t : Trk} {ws : List Pt} (h : chkV t ws = 0) : chkV t ws.reverse = 0 := chk_yes.2 ⟨(chk_yes.1 h).1, ptsB_rev (chk_yes.1 h).2⟩
theorem chk_rot {t : Trk} {ws : List Pt} (b : Nat) (h : chkV t ws = 0) : chkV t (rotW ws b) = 0 := chk_yes.2 ⟨(chk_yes.1 h).1, ptsB_rot b (chk_yes.1 h).2⟩
theorem empty_len {α β : Type} {a : List α} {b : List β} (h : a.length = b.length) : a.isEmpty = b.isEmpty := by
  cases a <;> cases b <;> simp_all
theorem set_rev {t : Trk} {ws : List Pt} (h : chkV t ws = 0) : setE t ws.reverse = setE t ws := by
  obtain ⟨h1, h2⟩ := chk_yes.1 h
  unfold setE
  rw [if_pos h, if_pos (chk_rev h), empty_len (many_rev (trk_parts h1).2.1 (pts_posM h2))]
theorem set_rot {t : Trk} {ws : List Pt} (b : Nat) (h : chkV t ws = 0) : setE t (rotW ws b) = setE t ws := by
  obtain ⟨h1, h2⟩ := chk_yes.1 h
  unfold setE
  rw [if_pos h, if_pos (chk_rot b h), empty_len (many_rot (pts_posM h2) b)]
theorem take_rev {ps : List Pt} {k : Nat} (h : k < ps.length) : ps.reverse.take (k + 1) = ps.reverse.take k ++ [ptAt ps (ps.length - 1 - k)] := by
  have hk : k < ps.reverse.length := by rw [List.length_reverse]; exact h
  rw [List.take_succ_eq_append_getElem hk]
  congr 2
  rw [List.getElem_reverse]
  unfold ptAt
  rw [List.getElem?_eq_getElem (by omega)]
  rfl
theorem take_revI {es : List Int} {k : Nat} (h : k < es.length) : es.reverse.take (k + 1) = es.reverse.take k ++ [esAt es (es.length - 1 - k)] := by
  have hk : k < es.reverse.length := by rw [List.length_reverse]; exact h
  rw [List.take_succ_eq_append_getElem hk]
  congr 2
  rw [List.getElem_reverse]
  unfold esAt
  rw [List.getElem?_eq_getElem (by omega)]
  rfl
theorem rolls_neg_at {l : List Int} {k : Nat} {x : Int} (h : l[k]? = some x) : ((l.map (fun x => -x)).reverse)[l.length - 1 - k]? = some (-x) := by
  have hk := (List.getElem?_eq_some_iff.1 h).1
  rw [List.getElem?_reverse (by rw [List.length_map]; omega), List.length_map, show l.length - 1 - (l.length - 1 - k) = k by omega, List.getElem?_map, h]
  rfl
end Wl
theorem below_of_grownB {w w' : World} {row : Option Nat} {n : Nat} (h : w.grownBy w' row) (hn : n ≤ w.heap.size) (hr : ∀ g, row = some g → n ≤ g) : Below n w w' :=
  ⟨h.os, h.tape, h.output, h.size, fun k hk => h.block k (by omega) (fun e => by have := hr k e.symm; omega)⟩
/-- 'l = append(l, x)' on a row of points of the call's own. -/
theorem wpList_pushpb {ops : Array Oper} {rest : List Oper} {o : Oper} {a : Act} {Q : Exit → Act → World → Prop} {wr : World} (hgd : o.guard = none) (s y : Operand)
    (ho : o.op = .call { callee := .builtin .append, args := #[s, y], argTypes := #[22, 22] }) (g : Int × Int) (B : Nat) (v : Value) (n : Nat) (xs : List Value) (hs : a.eval s = v)
    (hx : a.eval y = .slice (some ⟨wr.heap.size, 0, none⟩) 1 1) (hown : wr.ownsRow B 28 2 v n xs) (hB : B ≤ wr.heap.size) (hn : n ≤ 100000)
    (h : ∀ v' w', w'.ownsRow B 28 2 v' (n + 1) (xs ++ flat [g]) → wr.grownBy w' v.ownBlock → (∀ k, v'.ownBlock = some k → v.ownBlock = some k ∨ wr.heap.size ≤ k) → wpList Try.prog ops Q rest (a.put o.dst v') w') :
    wpList Try.prog ops Q (o :: rest) a (wr.alloc (.cells #[.int .i64 g.1, .int .i64 g.2] 28)) := by
  obtain ⟨i0, hi0, hz0, hz1, hz2⟩ := info_parts4 point_info
  have hbox := BoxS.new wr 28 #[.int .i64 g.1, .int .i64 g.2]
  have hC : Prs (wr.alloc (.cells #[.int .i64 g.1, .int .i64 g.2] 28)) (wr.heap.size + 1) (some ⟨wr.heap.size, 0, none⟩) [g] := fun _ => ⟨wr.heap.size, 0, rfl, Nat.lt_succ_self _, fun k p hk => by
    rcases k with _ | k
    · obtain rfl : g = p := by simpa using hk
      exact ⟨hbox.cell 0 rfl, hbox.cell 1 rfl⟩
    · simp at hk⟩
  refine wpList_append_any _ hgd s y 22 ho B 28 i0 (.agg #[.int .i64 0, .int .i64 0]) 2 16 Try.underlying22 hi0 hz0 hz1 hz2 rfl (by decide) v n xs hs (hown.alloc _) (wr.heap.size + 1) (some ⟨wr.heap.size, 0, none⟩) 1 1 (flat [g]) hx hC.reads (flat_one [g]) (by simp only [maxLen]; omega) (by omega) (by simp; omega) ?_
  intro v' w' hown' hgr hat
  refine h v' w' hown' ((World.grownBy_alloc wr _ _).trans hgr) fun k hk => ?_
  rcases hat with e | e
  · exact .inl (e ▸ hk)
  · right
    rw [e] at hk
    injection hk with hk
    rw [← hk, World.size_alloc]
    omega
def PrsPost (L : List (Int × Int)) (w : World) (e : Ending) (w' : World) : Prop := ∃ A c, e = .returned (.slice A L.length c) ∧ Hid (Prs w' w'.heap.size A L) ∧ Below w.heap.size w w'
set_option maxRecDepth 100000 in
set_option maxHeartbeats 8000000 in
theorem back5_any (A : Option Addr) (c : Nat) (ps : List (Int × Int)) (hl : ps.length ≤ 1000) (w : World) (hP : Prs w w.heap.size A ps) :
    Calls Try.prog 43 #[.slice A ps.length c] w (PrsPost ps.reverse w) := by
  have HP := Lib.hid hP
  have HS0 : Hid (∀ k, k < ps.length → ps.reverse.take (k + 1) = ps.reverse.take k ++ [Wl.ptAt ps (ps.length - 1 - k)]) := fun k hk => Wl.take_rev hk
  have HL : Hid (∀ k, k ≤ ps.length → (ps.reverse.take k).length = k) := fun k hk => by unfold Hid at *; rw [List.length_take, List.length_reverse]; omega
  have HA : Hid (ps.reverse.take ps.length = ps.reverse) := by unfold Hid; rw [← List.length_reverse, List.take_length]
  have H0 : Hid (ps.reverse.take 0 = []) := rfl
  clear hP
  generalize hT : (fun k : Nat => ps.reverse.take k) = RT at *
  have hT' : ∀ k : Nat, ps.reverse.take k = RT k := fun k => by rw [← hT]
  simp only [hT'] at HS0 HL HA H0
  clear hT hT'
  generalize ps.reverse = R at *
  have hw0 : IntKind.i64.wrap ((ps.length : Int) - 1) = (ps.length : Int) - 1 := IntWalk.i64_in _ (by omega)
  go_enter Try.func43, Try.ntmps43
  go_wp2_with fail
  go_loopg [3, 4] ps.length (fun g x3 x4 wx => ∃ k : Nat, Hid (k + g = ps.length) ∧ (k : Int) ≤ ps.length ∧ x4 = .int .i64 ((ps.length : Int) - 1 - k) ∧ Below w.heap.size w wx ∧ Hid (wx.ownsRow w.heap.size 28 2 x3 k (flat (RT k))))
  case atStart => exact ⟨0, by simp [Hid], by omega, by simp, Below.refl _ _, by unfold Hid; rw [H0.out]; exact World.ownsRow_nil _ _ _ _⟩
  case round =>
    obtain ⟨k, hk, hk1, rfl, hB, hO⟩ := hrel
    have hk0 := Int.natCast_nonneg k
    by_cases hlt : (k : Int) < ps.length
    · have hkn : k < ps.length := by omega
      have hjn : ps.length - 1 - k < ps.length := by omega
      have hj : ((ps.length : Int) - 1 - k) = ((ps.length - 1 - k : Nat) : Int) := by omega
      have HS := Lib.hid (HS0.out k hkn)
      have hg1 : ps[ps.length - 1 - k]? = some (Wl.ptAt ps (ps.length - 1 - k)) := by unfold Wl.ptAt; rw [List.getElem?_eq_getElem hjn]; rfl
      obtain ⟨b, off, rfl, hb, hc⟩ := HP.out (by omega)
      have d0 := (hB.cell (p := ⟨b, _, none⟩) hb).trans (hc _ _ hg1).1
      have d1 := (hB.cell (p := ⟨b, _, none⟩) hb).trans (hc _ _ hg1).2
      rw [hj]
      have hw1 : IntKind.i64.wrap (((ps.length - 1 - k : Nat) : Int) - 1) = (ps.length : Int) - 1 - ((k + 1 : Nat) : Int) := by rw [IntWalk.i64_in _ (by omega)]; omega
      clear hc hg1 HP
      generalize Wl.ptAt ps (ps.length - 1 - k) = p at *
      obtain ⟨x, y⟩ := p
      dsimp only at d0 d1
      generalize ps.length - 1 - k = j at *
      have hj0 := Int.natCast_nonneg j
      have e1 : decide ((j : Int) < 0) = false := decide_eq_false (by omega)
      have e2 : decide ((ps.length : Int) ≤ (j : Int)) = false := decide_eq_false (by omega)
      have e4 : decide (ps.length ≤ j) = false := decide_eq_false (by omega)
      have e5 : decide (0 ≤ (j : Int)) = true := decide_eq_true (by omega)
      have hbr : b < wr.heap.size := by have := hB.size; omega
      go_wp2_with (at_builtin; go_must (refine wpList_pushpb rfl (.tmp 12) (.tmp 17) rfl (x, y) w.heap.size _ k (flat (RT k)) rfl rfl hO.out hB.size (by omega) ?_; intro v' w5 hown5 hgr5 hfr5; have HO5 := Lib.hid hown5; have hB5 := hB.trans (below_of_grownB hgr5 hB.size (fun g e => (hO.out.lt g e).1)); clear hown5 hgr5 hfr5))
      obtain ⟨g', hg'⟩ : ∃ g', gk = g' + 1 := ⟨gk - 1, by have := hk.out; omega⟩
      go_roundg g'
      case measure => omega
      case rel => exact ⟨k + 1, by have := hk.out; simp only [Hid]; omega, by omega, by go_num, hB5, by rw [HS.out, flat_append]; exact HO5.out⟩
    · have ek : k = ps.length := by omega
      have hm : decide (0 ≤ (ps.length : Int) - 1 - (k : Int)) = false := decide_eq_false (by omega)
      have HO : Hid (∃ A c, u3 = .slice A R.length c ∧ Prs wr wr.heap.size A R) := by
        have h := hO.out
        have hlen := HL.out ps.length (Nat.le_refl _)
        rw [ek, HA.out] at h
        rw [HA.out] at hlen
        rw [← hlen] at h
        obtain ⟨A', c', rfl⟩ := own_formP h
        exact ⟨A', c', rfl, prsP_of_own h⟩
      clear hO ek
      go_wp2_with fail
      go_returns
      obtain ⟨A', c', e, h⟩ := HO.out
      exact ⟨A', c', by rw [e]; rfl, h, hB⟩
set_option maxRecDepth 100000 in
set_option maxHeartbeats 8000000 in
theorem turned5_any (A : Option Addr) (c : Nat) (ps : List (Int × Int)) (m : Nat) (hl : ps.length ≤ 1000) (hm : m ≤ 1000) (w : World) (hP : Prs w w.heap.size A ps) :
    Calls Try.prog 44 #[.slice A ps.length c, .int .i64 (m : Int)] w (PrsPost (Wl.rotW ps m) w) := by
  have HP := Lib.hid hP
  have HS0 : Hid (∀ k, Wl.rotTo (0, 0) ps m (k + 1) = Wl.rotTo (0, 0) ps m k ++ [Wl.ptAt ps ((k + m) % ps.length)]) := fun k => rfl
  have HL : Hid (∀ k, (Wl.rotTo (0, 0) ps m k).length = k) := Wl.rotTo_len _ _ _
  have HA : Hid (Wl.rotTo (0, 0) ps m ps.length = Wl.rotW ps m) := rfl
  have H0 : Hid (Wl.rotTo (0, 0) ps m 0 = []) := rfl
  clear hP
  generalize Wl.rotTo (0, 0) ps m = RT at *
  generalize Wl.rotW ps m = R at *
  go_enter Try.func44, Try.ntmps44
  go_wp2_with fail
  go_loopg [5, 6] ps.length (fun g x5 x6 wx => ∃ k : Nat, Hid (k + g = ps.length) ∧ (k : Int) ≤ ps.length ∧ x6 = .int .i64 (k : Int) ∧ Below w.heap.size w wx ∧ Hid (wx.ownsRow w.heap.size 28 2 x5 k (flat (RT k))))
  case atStart => exact ⟨0, by simp [Hid], by omega, by simp, Below.refl _ _, by unfold Hid; rw [H0.out]; exact World.ownsRow_nil _ _ _ _⟩
  case round =>
    obtain ⟨k, hk, hk1, rfl, hB, hO⟩ := hrel
    have hk0 := Int.natCast_nonneg k
    by_cases hlt : (k : Int) < ps.length
    · have hkn : k < ps.length := by omega
      have hjn : (k + m) % ps.length < ps.length := Nat.mod_lt _ (by omega)
      have HS := Lib.hid (HS0.out k)
      have hg1 : ps[(k + m) % ps.length]? = some (Wl.ptAt ps ((k + m) % ps.length)) := by unfold Wl.ptAt; rw [List.getElem?_eq_getElem hjn]; rfl
      obtain ⟨b, off, rfl, hb, hc⟩ := HP.out (by omega)
      have d0 := (hB.cell (p := ⟨b, _, none⟩) hb).trans (hc _ _ hg1).1
      have d1 := (hB.cell (p := ⟨b, _, none⟩) hb).trans (hc _ _ hg1).2
      have hr1 : ((k : Int) + (m : Int)) % (ps.length : Int) = (((k + m) % ps.length : Nat) : Int) := by rw [Int.natCast_emod]; rfl
      have hr2 : ((k : Int) + (m : Int)).tmod (ps.length : Int) = (((k + m) % ps.length : Nat) : Int) := by rw [Int.tmod_eq_emod_of_nonneg (by omega)]; exact hr1
      have hw1 : IntKind.i64.wrap ((k : Int) + 1) = (k : Int) + 1 := IntWalk.i64_in _ (by omega)
      have hw2 : IntKind.i64.wrap ((k : Int) + (m : Int)) = (k : Int) + (m : Int) := IntWalk.i64_in _ (by omega)
      have hne : ¬ (ps.length : Int) = 0 := by omega
      have hne2 : ¬ ps.length = 0 := by omega
      have hne3 : ¬ ps = [] := by intro e; subst e; simp at hne2
      clear hc hg1 HP hr1 HS0
      generalize Wl.ptAt ps ((k + m) % ps.length) = p at *
      obtain ⟨x, y⟩ := p
      dsimp only at d0 d1
      generalize (k + m) % ps.length = j at *
      have hj0 := Int.natCast_nonneg j
      have hw3 : IntKind.i64.wrap (j : Int) = (j : Int) := IntWalk.i64_in _ (by omega)
      have e1 : decide ((j : Int) < 0) = false := decide_eq_false (by omega)
      have e2 : decide ((ps.length : Int) ≤ (j : Int)) = false := decide_eq_false (by omega)
      have e4 : decide (ps.length ≤ j) = false := decide_eq_false (by omega)
      have hbr : b < wr.heap.size := by have := hB.size; omega
      go_wp2_with (at_builtin; go_must (refine wpList_pushpb rfl (.tmp 13) (.tmp 23) rfl (x, y) w.heap.size _ k (flat (RT k)) rfl rfl hO.out hB.size (by omega) ?_; intro v' w5 hown5 hgr5 hfr5; have HO5 := Lib.hid hown5; have hB5 := hB.trans (below_of_grownB hgr5 hB.size (fun g e => (hO.out.lt g e).1)); clear hown5 hgr5 hfr5))
      obtain ⟨g', hg'⟩ : ∃ g', gk = g' + 1 := ⟨gk - 1, by have := hk.out; omega⟩
      go_roundg g'
      case measure => omega
      case rel => exact ⟨k + 1, by have := hk.out; simp only [Hid]; omega, by omega, by go_num, hB5, by rw [HS.out, flat_append]; exact HO5.out⟩
    · have ek : k = ps.length := by omega
      have HO : Hid (∃ A c, u5 = .slice A R.length c ∧ Prs wr wr.heap.size A R) := by
        have h := hO.out
        have hlen := HL.out ps.length
        rw [ek, HA.out] at h
        rw [HA.out] at hlen
        rw [← hlen] at h
        obtain ⟨A', c', rfl⟩ := own_formP h
        exact ⟨A', c', rfl, prsP_of_own h⟩
      clear hO ek
      go_wp2_with fail
      go_returns
      obtain ⟨A', c', e, h⟩ := HO.out
      exact ⟨A', c', by rw [e]; rfl, h, hB⟩
end Go.Proofs.Ytmjcdggmofohcaa
