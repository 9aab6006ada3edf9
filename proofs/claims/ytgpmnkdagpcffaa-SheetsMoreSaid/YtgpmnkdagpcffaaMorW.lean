/- Sheets: the law's 'subset'. -/
import Derived.Test.YtgpmnkdagpcffaaTurP
import Derived.Test.YtgpmnkdagpcffaaFew
import Derived.Test.YtgpmnkdagpcffaaWid
namespace Go.Proofs.Ytgpmnkdagpcffaa
open Go.RowKit
set_option maxRecDepth 100000 in
set_option maxHeartbeats 4000000 in
theorem subset_yes (v : Value) (xs : List Int) (u : Value) (ys : List Int) (w : World) (hv : Ints w w.heap.size v xs) (hu : Ints w w.heap.size u ys) (hl : xs.length ≤ 1000000000) (hl2 : ys.length ≤ 1000000000) (hs : ∀ x ∈ xs, x ∈ ys) (hn : xs.length ≤ ys.length) :
    Calls Try.prog 62 #[v, u] w fun e w' => e = .returned (.bool true) ∧ Below w.heap.size w w' := by
  have hform : ∃ A c, v = .slice A xs.length c := by
    rcases hv with ⟨rfl, rfl⟩ | ⟨b, off, cap, rfl, _⟩
    · exact ⟨none, 0, rfl⟩
    · exact ⟨_, _, rfl⟩
  obtain ⟨A, c, hva⟩ := hform
  have hform2 : ∃ A c, u = .slice A ys.length c := by
    rcases hu with ⟨rfl, rfl⟩ | ⟨b, off, cap, rfl, _⟩
    · exact ⟨none, 0, rfl⟩
    · exact ⟨_, _, rfl⟩
  obtain ⟨A2, c2, hua⟩ := hform2
  have HIN : Hid (∀ (x : Int) W, x ∈ xs → Below w.heap.size w W → Calls Try.prog 118 #[.slice A2 ys.length c2, .int .i64 x] W fun e w' => e = .returned (.bool true) ∧ Below W.heap.size W w') := fun x W hx hW =>
    (in4_any (.slice A2 ys.length c2) ys x W (Ints.more (Ints.keep (by rw [hua] at hu; exact hu : Ints w w.heap.size (.slice A2 ys.length c2) ys) hW) hW.size) hl2).mono (fun e w' h => ⟨by rw [h.1, decide_eq_true (hs x hx)], h.2⟩)
  have HX := Lib.hid hv
  have hll : (xs.length : Int) ≤ 1000000000 := by omega
  have hll2 : (ys.length : Int) ≤ 1000000000 := by omega
  have hnn : (xs.length : Int) ≤ ys.length := by omega
  clear hv hu hs
  subst hva hua
  go_enter Try.func62, Try.ntmps62
  go_wp2_with fail
  go_loopw [5] (fun x wr => ∃ k : Nat, (k : Int) ≤ xs.length ∧ x = .int .i64 k ∧ Below w.heap.size w wr) (fun x _ => xs.length - (intOf x).toNat)
  case atStart => exact ⟨0, by omega, rfl, Below.refl _ _⟩
  case round =>
    obtain ⟨k, hk, rfl, hB⟩ := hrel
    have hkn := Int.natCast_nonneg k
    by_cases hlt : (k : Int) < xs.length
    · have hkx : k < xs.length := by omega
      rcases HX.out with ⟨_, e⟩ | ⟨b, off, cap, e, hb, hc⟩
      · subst e; simp at hkx
      · have hxk : xs[k]? = some xs[k] := List.getElem?_eq_getElem hkx
        have c0 := (hB.cell (p := ⟨b, off + k, none⟩) hb).trans (hc k _ hxk)
        have HI := Lib.hid (HIN.out xs[k] wr (List.getElem_mem hkx) hB)
        injection e with eA _ ec
        subst eA ec
        have hw1 : IntKind.i64.wrap ((k : Int) + 1) = (k : Int) + 1 := IntWalk.i64_in _ (by omega)
        clear hc hxk HIN
        generalize xs[k] = x at *
        go_wp2_with fail
        refine HI.out.mono ?_
        rintro e9 w9 ⟨rfl, hb9⟩
        have hB9 := hB.trans (hb9.mono hB.size)
        go_wp2_with fail
        go_roundw
        case rel => exact ⟨k + 1, by omega, by go_num, hB9⟩
        case measure => simp [intOf]; omega
    · go_wp2_with fail
      go_returns
      exact ⟨rfl, hB⟩
end Go.Proofs.Ytgpmnkdagpcffaa

namespace Go.Proofs.Ytgpmnkdagpcffaa
namespace Sh
theorem facTo_len_sub {way : Int} {L L' : List FaS} (h : ∀ x ∈ L, x ∈ L') : ∀ k, (facTo way L k).length ≤ (facTo way L' k).length
  | 0 => Nat.le_refl _
  | k + 1 => by
    have ih := facTo_len_sub (way := way) h k
    cases h1 : (L.any fun f => decide (ofV f.1 way = 900 + (k : Int))) with
    | false =>
      rw [facTo_no h1]
      cases h2 : (L'.any fun f => decide (ofV f.1 way = 900 + (k : Int))) with
      | false => rw [facTo_no h2]; exact ih
      | true => rw [facTo_yes h2, List.length_append]; omega
    | true =>
      have h2 : (L'.any fun f => decide (ofV f.1 way = 900 + (k : Int))) = true := by
        rw [List.any_eq_true] at *
        obtain ⟨x, hx, e⟩ := h1
        exact ⟨x, h x hx, e⟩
      rw [facTo_yes h1, facTo_yes h2, List.length_append, List.length_append]
      show _ + 1 ≤ _ + 1
      omega
theorem sp_ne {s : Sheet} (hok : okB s = true) (h : spE s = 0) : truthsL s ≠ [] := fun e => by rw [sp_none hok e] at h; omega
theorem sp_or {s : Sheet} (hok : okB s = true) : spE s = 0 ∨ spE s = 3 := by
  by_cases e : truthsL s = []
  · exact .inr (sp_none hok e)
  · exact .inl (sp_yes hok e)
theorem facE_zero {s : Sheet} (hok : okB s = true) (h : spE s = 0) {way : Int} (hw : wayB way = true) : facE s way = 0 := by
  unfold facE knE
  rw [hok, hw, if_pos rfl, if_pos rfl, if_pos rfl, if_neg (sp_ne hok h)]
theorem areaE_zero {s : Sheet} (hok : okB s = true) (h : spE s = 0) {ps : List Geo.Pt} (hv : Geo.validB ps = true) : areaE s ps = 0 := by
  unfold areaE
  rw [hok, hv, if_pos rfl, if_pos rfl, h]
theorem area_sane {s : Sheet} {t : Int} (ht : -80000000 ≤ t ∧ t ≤ 80000000) (hne : truthsL s ≠ []) : areaLo s t ≤ areaHi s t := by
  cases h : truthsL s with
  | nil => exact absurd h hne
  | cons x l =>
    have hx : x ∈ truthsL s := by rw [h]; exact List.mem_cons_self
    have h1 := low_le (fun _ => areaN t) areaD (truthsL s) hx
    have h2 := high_ge (fun _ => areaN t) areaD (truthsL s) hx
    have h3 := areaN_bd ht
    have h4 := areaD_bd x
    have h5 : (areaN t).tdiv (areaD x) ≤ (areaN t + areaD x - 1).tdiv (areaD x) := by
      rw [Int.tdiv_eq_ediv_of_nonneg (by omega), Int.tdiv_eq_ediv_of_nonneg (by omega)]
      exact Int.ediv_le_ediv (by omega) (by omega)
    unfold areaLo areaHi
    omega
theorem tot_bd80 {ps : List Geo.Pt} (hv : Geo.validB ps = true) : -80000000 ≤ Geo.tot Geo.fanV ps ∧ Geo.tot Geo.fanV ps ≤ 80000000 := by
  have hlen := Geo.valid_len hv
  have := tot_bd (f := Geo.fanV) (M := 8000000) (Geo.valid_sm hv) (fun s h1 h2 => by have := Geo.fan_bd h1 h2; omega)
  omega
/-- All that the law asks of two sheets, of which one leaves less open. -/
structure Less (s t : Sheet) (ps : List Geo.Pt) : Prop where
  sp : spE t = 0
  m1 : 1 ≤ manyV s
  m2 : manyV s ≤ manyV t
  e1 : ∀ way, wayB way = true → facE s way = 0
  e2 : ∀ way, wayB way = true → facE t way = 0
  fs : ∀ way, wayB way = true → ∀ x ∈ facR s way, x ∈ facR t way
  fl : ∀ way, wayB way = true → (facR s way).length ≤ (facR t way).length
  a1 : areaE s ps = 0
  a2 : areaE t ps = 0
  lo : areaLoE t ps ≤ areaLoE s ps
  mid : areaLoE s ps ≤ areaHiE s ps
  hi : areaHiE s ps ≤ areaHiE t ps
  al : alikeV t = 3 ∨ alikeV s = alikeV t
theorem less_of {s t : Sheet} (hs : okB s = true) (ht : okB t = true) (hsub : ∀ x ∈ truthsL s, x ∈ truthsL t) (h0 : spE s = 0) {ps : List Geo.Pt} (hv : Geo.validB ps = true) : Less s t ps := by
  have hne := sp_ne hs h0
  have hne' : truthsL t ≠ [] := fun e => by
    cases h : truthsL s with
    | nil => exact hne h
    | cons x l =>
      have := hsub x (by rw [h]; exact List.mem_cons_self)
      rw [e] at this; cases this
  have h0' := sp_yes ht hne'
  have hT := tot_bd80 hv
  have hb : ∀ x : FaS, ((fun _ => areaN (Geo.tot Geo.fanV ps)) x).tdiv (areaD x) ≤ 9223372036854775807 := fun x => by
    have h1 := areaN_bd hT
    exact tdiv_big (by dsimp only; omega) (by dsimp only; omega) _
  have eS := areaE_zero hs h0 hv
  have eT := areaE_zero ht h0' hv
  refine ⟨h0', ?_, ?_, fun way hw => facE_zero hs h0 hw, fun way hw => facE_zero ht h0' hw, fun way hw x hx => ?_, fun way hw => ?_, eS, eT, ?_, ?_, ?_, ?_⟩
  · unfold manyV
    rw [if_pos h0]
    have := List.length_pos_iff.2 hne
    omega
  · unfold manyV
    rw [if_pos h0, if_pos h0']
    have := len_sub (ok_of hs) hsub
    omega
  · unfold facR at *
    rw [if_pos (facE_zero hs h0 hw)] at hx
    rw [if_pos (facE_zero ht h0' hw)]
    exact fac_sub hsub _ hx
  · unfold facR
    rw [if_pos (facE_zero hs h0 hw), if_pos (facE_zero ht h0' hw)]
    exact facTo_len_sub hsub _
  · unfold areaLoE
    rw [if_pos eS, if_pos eT]
    exact low_sub _ _ hsub hb hne
  · unfold areaLoE areaHiE
    rw [if_pos eS, if_pos eS]
    exact area_sane hT hne
  · unfold areaHiE
    rw [if_pos eS, if_pos eT]
    exact high_sub _ _ hsub
  · unfold alikeV
    rw [if_pos h0, if_pos h0']
    exact known_sub alikeB hsub hne
end Sh
end Go.Proofs.Ytgpmnkdagpcffaa

namespace Go.Proofs.Ytgpmnkdagpcffaa
namespace Sh
theorem few_le_from (cs : List Ct) (m : Int) : ∀ (L : List FaS) (a : Int), L.foldl (fun l x => lowS l (wrongN x.1 cs : Nat)) a ≤ m ↔ a ≤ m ∨ ∃ x ∈ L, (wrongN x.1 cs : Int) ≤ m
  | [], a => by simp
  | x :: l, a => by
    rw [List.foldl_cons, few_le_from cs m l]
    have e : lowS a (wrongN x.1 cs : Nat) ≤ m ↔ a ≤ m ∨ (wrongN x.1 cs : Int) ≤ m := by unfold lowS; split <;> omega
    rw [e]
    constructor
    · rintro ((h | h) | ⟨y, hy, h⟩)
      · exact .inl h
      · exact .inr ⟨x, List.mem_cons_self, h⟩
      · exact .inr ⟨y, List.mem_cons_of_mem _ hy, h⟩
    · rintro (h | ⟨y, hy, h⟩)
      · exact .inl (.inl h)
      · rcases List.mem_cons.1 hy with rfl | hy
        · exact .inl (.inr h)
        · exact .inr ⟨y, hy, h⟩
theorem few_sp {s : Sheet} (hok : okB s = true) : fewV s ≤ s.wr ↔ spE s = 0 := by
  have hs := ok_of hok
  unfold fewV fewF
  rw [hok, if_pos rfl, few_le_from]
  have hmem : ∀ f : FaS, f ∈ truthsL s ↔ f ∈ casesL s ∧ (wrongN f.1 s.cs : Int) ≤ s.wr := fun f => by
    unfold truthsL
    rw [List.mem_filter]
    unfold trB
    rw [decide_eq_true_eq]
  constructor
  · intro h
    have hex : ∃ x ∈ casesL s, (wrongN x.1 s.cs : Int) ≤ s.wr := by
      rcases h with h | h
      · have a1 := hs.a1
        have a2 := hs.a2
        have a3 := hs.a3
        have b1 := hs.b1
        have b2 := hs.b2
        have b3 := hs.b3
        have hsm : fsm (s.al, s.bl) := ⟨⟨by show 1 ≤ s.al; omega, by show s.al ≤ 2000; omega⟩, by show 1 ≤ s.bl; omega, by show s.bl ≤ 2000; omega⟩
        refine ⟨⟨(s.al, s.bl), hsm⟩, (mem_cases hs _).2 ⟨⟨Int.le_refl _, a2⟩, Int.le_refl _, b2⟩, ?_⟩
        have := wrongTo_le (s.al, s.bl) s.cs s.cs.length
        show (wrongTo (s.al, s.bl) s.cs s.cs.length : Int) ≤ s.wr
        omega
      · exact h
    obtain ⟨x, hx, hw⟩ := hex
    exact sp_yes hok (fun e => by
      have := (hmem x).2 ⟨hx, hw⟩
      rw [e] at this; cases this)
  · intro h
    have hne := sp_ne hok h
    cases hL : truthsL s with
    | nil => exact absurd hL hne
    | cons x l =>
      have := (hmem x).1 (by rw [hL]; exact List.mem_cons_self)
      exact .inr ⟨x, this.1, this.2⟩
end Sh
end Go.Proofs.Ytgpmnkdagpcffaa

namespace Go.Proofs.Ytgpmnkdagpcffaa
open Go.RowKit
set_option maxHeartbeats 1000000 in
theorem isKnown_yes (k : Int) (h : k = 0 ∨ k = 3) (w : World) : Calls Try.prog 18 #[.int .i64 k] w fun e w' => e = .returned (.bool true) ∧ w' = w := by
  rcases h with rfl | rfl
  · go_enter Try.func18, Try.ntmps18
    go_wp2_with fail
    go_returns
    exact ⟨rfl, rfl⟩
  · go_enter Try.func18, Try.ntmps18
    go_wp2_with fail
    go_returns
    exact ⟨rfl, rfl⟩
def SlPost (L : List Int) (w : World) (e : Ending) (w' : World) : Prop := ∃ B d, e = .returned (.tuple #[.slice B L.length d, .int .i64 0]) ∧ Hid (Ints w' w'.heap.size (.slice B L.length d) L) ∧ Below w.heap.size w w'
theorem ints_slice {w : World} {B : Nat} {v : Value} {xs : List Int} (h : Ints w B v xs) : ∃ A c, v = .slice A xs.length c := by
  rcases h with ⟨rfl, rfl⟩ | ⟨b, off, cap, rfl, _⟩
  · exact ⟨none, 0, rfl⟩
  · exact ⟨_, _, rfl⟩
theorem fac_slice (s : Sheet) (way : Int) (A : Option Addr) (c : Nat) (w : World) (hl : s.cs.length ≤ 1000000000) (hg : Cts w w.heap.size A s.cs) (h0 : Sh.facE s way = 0) :
    Calls Try.prog 22 #[.agg (shV s A c), .int .i64 way] w (SlPost (Sh.facR s way) w) :=
  (Factors_any s way A c w hl hg).mono fun e w' h => by
    obtain ⟨v, he, hi, hb⟩ := h
    obtain ⟨B, d, rfl⟩ := ints_slice hi.out
    exact ⟨B, d, by rw [he, h0], hi, hb⟩
/-- What the law asks of two sheets, as contracts. -/
def InsFacts (s t : Sheet) (A A9 : Option Addr) (c c9 : Nat) (ps : List Geo.Pt) (A2 : Option Addr) (c2 : Nat) (w : World) : Prop :=
  ∃ (m n a1 a2 b1 b2 q r : Int) (FS FT : Nat → List Int),
    Hid (∀ W, Below w.heap.size w W → Calls Try.prog 17 #[.agg (shV s A c)] W (TwoPost m 0 W)) ∧
    Hid (∀ W, Below w.heap.size w W → Calls Try.prog 17 #[.agg (shV t A9 c9)] W (TwoPost n 0 W)) ∧
    Hid (∀ (k : Nat) W, k < 2 → Below w.heap.size w W → Calls Try.prog 22 #[.agg (shV s A c), .int .i64 (1 + (k : Int))] W (SlPost (FS k) W)) ∧
    Hid (∀ (k : Nat) W, k < 2 → Below w.heap.size w W → Calls Try.prog 22 #[.agg (shV t A9 c9), .int .i64 (1 + (k : Int))] W (SlPost (FT k) W)) ∧
    Hid (∀ (k : Nat) (v v' : Value) W, k < 2 → Ints W W.heap.size v (FS k) → Ints W W.heap.size v' (FT k) → Calls Try.prog 62 #[v, v'] W (TruePost W)) ∧
    Hid (∀ k : Nat, k < 2 → ((FT k).length : Int) ≤ 300) ∧
    Hid (∀ W, Below w.heap.size w W → Calls Try.prog 23 #[.agg (shV s A c), .slice A2 ps.length c2] W (SpanEPost a1 a2 0 W)) ∧
    Hid (∀ W, Below w.heap.size w W → Calls Try.prog 23 #[.agg (shV t A9 c9), .slice A2 ps.length c2] W (SpanEPost b1 b2 0 W)) ∧
    Hid (∀ W, Below w.heap.size w W → Calls Try.prog 39 #[.agg (shV s A c)] W (TwoPost q 0 W)) ∧
    Hid (∀ W, Below w.heap.size w W → Calls Try.prog 39 #[.agg (shV t A9 c9)] W (TwoPost r 0 W)) ∧
    1 ≤ m ∧ m ≤ n ∧ b1 ≤ a1 ∧ a1 ≤ a2 ∧ a2 ≤ b2 ∧ (r = 3 ∨ q = r)
theorem ins_facts (s t : Sheet) (A A9 : Option Addr) (c c9 : Nat) (ps : List Geo.Pt) (A2 : Option Addr) (c2 : Nat) (w : World) (hs : Sh.okB s = true) (ht : Sh.okB t = true) (hsub : ∀ x ∈ Sh.truthsL s, x ∈ Sh.truthsL t) (h0 : Sh.spE s = 0) (hv : Geo.validB ps = true)
    (hg : Cts w w.heap.size A s.cs) (hg9 : Cts w w.heap.size A9 t.cs) (hP : Prs w w.heap.size A2 ps) : InsFacts s t A A9 c c9 ps A2 c2 w := by
  have L := Sh.less_of hs ht hsub h0 hv
  have l1 : s.cs.length ≤ 1000000000 := by have := (Sh.ok_of hs).n; omega
  have l2 : t.cs.length ≤ 1000000000 := by have := (Sh.ok_of ht).n; omega
  have lp : ps.length ≤ 100 := by have := Geo.valid_len hv; omega
  have hw : ∀ k : Nat, k < 2 → Sh.wayB (1 + (k : Int)) = true := fun k hk => by
    unfold Sh.wayB
    simp only [Bool.or_eq_true, decide_eq_true_eq]
    omega
  have cA := fun W (hW : Below w.heap.size w W) => (hg.keep hW).wider hW.size
  have cB := fun W (hW : Below w.heap.size w W) => (hg9.keep hW).wider hW.size
  refine ⟨Sh.manyV s, Sh.manyV t, Sh.areaLoE s ps, Sh.areaHiE s ps, Sh.areaLoE t ps, Sh.areaHiE t ps, Sh.alikeV s, Sh.alikeV t, fun k => Sh.facR s (1 + (k : Int)), fun k => Sh.facR t (1 + (k : Int)), fun W hW => ?_, fun W hW => ?_, fun k W hk hW => ?_, fun k W hk hW => ?_, fun k v v' W hk h1 h2 => ?_, fun k hk => ?_, fun W hW => ?_, fun W hW => ?_, fun W hW => ?_, fun W hW => ?_, L.m1, L.m2, L.lo, L.mid, L.hi, L.al⟩
  · have := Many_any s A c W l1 (cA W hW); rw [h0] at this; exact this
  · have := Many_any t A9 c9 W l2 (cB W hW); rw [L.sp] at this; exact this
  · exact fac_slice s _ A c W l1 (cA W hW) (L.e1 _ (hw k hk))
  · exact fac_slice t _ A9 c9 W l2 (cB W hW) (L.e2 _ (hw k hk))
  · have n1 := Sh.facR_len s (1 + (k : Int))
    have n2 := Sh.facR_len t (1 + (k : Int))
    dsimp only at h1 h2
    exact subset_yes v _ v' _ W h1 h2 (by omega) (by omega) (L.fs _ (hw k hk)) (L.fl _ (hw k hk))
  · have n2 := Sh.facR_len t (1 + (k : Int))
    dsimp only
    omega
  · have := Area_any s A c A2 c2 ps W l1 lp (cA W hW) (prs_keep hP hW); rw [L.a1] at this; exact this
  · have := Area_any t A9 c9 A2 c2 ps W l2 lp (cB W hW) (prs_keep hP hW); rw [L.a2] at this; exact this
  · have := Alike_any s A c W l1 (cA W hW); rw [h0] at this; exact this
  · have := Alike_any t A9 c9 W l2 (cB W hW); rw [L.sp] at this; exact this
set_option maxRecDepth 100000 in
set_option maxHeartbeats 8000000 in
theorem inside_yes (s t : Sheet) (A A9 : Option Addr) (c c9 : Nat) (ps : List Geo.Pt) (A2 : Option Addr) (c2 : Nat) (w : World) (hv : Geo.validB ps = true) (ht : Sh.okB t = true) (hl : s.cs.length ≤ 1000000000) (hsub : Sh.okB s = true → ∀ x ∈ Sh.truthsL s, x ∈ Sh.truthsL t)
    (hg : Cts w w.heap.size A s.cs) (hg9 : Cts w w.heap.size A9 t.cs) (hP : Prs w w.heap.size A2 ps) :
    Calls Try.prog 20 #[.agg (shV s A c), .agg (shV t A9 c9), .slice A2 ps.length c2] w (TruePost w) := by
  have HRD : Hid (∀ W, Below w.heap.size w W → Calls Try.prog 13 #[.agg (shV s A c)] W fun e w' => e = .returned (.bool (Sh.readyB s)) ∧ Below W.heap.size W w') := fun W hW => ready4_any s A c W ((hg.keep hW).wider hW.size)
  have HIK : Hid (∀ k W, (k = 0 ∨ k = 3) → Calls Try.prog 18 #[.int .i64 k] W fun e w' => e = .returned (.bool true) ∧ w' = W) := fun k W h => isKnown_yes k h W
  have HRO : Hid (Sh.readyB s = true → Sh.okB s = true) := fun h => by unfold Sh.readyB at h; exact (Bool.and_eq_true_iff.1 h).2
  have HSP : Hid (Sh.readyB s = true → Sh.spE s = 0 ∨ Sh.spE s = 3) := fun h => Sh.sp_or (HRO.out h)
  have HST : Hid (Sh.spE t = 0 ∨ Sh.spE t = 3) := Sh.sp_or ht
  have HM1 : Hid (∀ W, Below w.heap.size w W → Calls Try.prog 17 #[.agg (shV s A c)] W (TwoPost (Sh.manyV s) (Sh.spE s) W)) := fun W hW => Many_any s A c W hl ((hg.keep hW).wider hW.size)
  have HM2 : Hid (∀ W, Below w.heap.size w W → Calls Try.prog 17 #[.agg (shV t A9 c9)] W (TwoPost (Sh.manyV t) (Sh.spE t) W)) := fun W hW => Many_any t A9 c9 W (by have := (Sh.ok_of ht).n; omega) ((hg9.keep hW).wider hW.size)
  have HALL : Hid (Sh.readyB s = true → Sh.spE s = 0 → InsFacts s t A A9 c c9 ps A2 c2 w) := fun h h0 => ins_facts s t A A9 c c9 ps A2 c2 w (HRO.out h) ht (hsub (HRO.out h)) h0 hv hg hg9 hP
  clear hg hg9 hP HRO hsub ht hv hl
  generalize Sh.readyB s = RB at *
  generalize Sh.spE s = SE at *
  generalize Sh.spE t = ST at *
  generalize Sh.manyV s = MS at *
  generalize Sh.manyV t = MT at *
  unfold InsFacts at HALL
  obtain ⟨al, ah, bl, bh, cs, wrn⟩ := s
  obtain ⟨al9, ah9, bl9, bh9, ct, wr9⟩ := t
  unfold shV at *
  dsimp only at *
  cases RB with
  | false =>
    go_enter Try.func20, Try.ntmps20
    go_wp2_with fail
    have bS1 := (BoxS.new w 26 #[.int .i64 al, .int .i64 ah, .int .i64 bl, .int .i64 bh, .slice A cs.length c, .int .i64 wrn]).alloc (.cells #[.int .i64 al9, .int .i64 ah9, .int .i64 bl9, .int .i64 bh9, .slice A9 ct.length c9, .int .i64 wr9] 26)
    have bT1 := BoxS.new (w.alloc (.cells #[.int .i64 al, .int .i64 ah, .int .i64 bl, .int .i64 bh, .slice A cs.length c, .int .i64 wrn] 26)) 26 #[.int .i64 al9, .int .i64 ah9, .int .i64 bl9, .int .i64 bh9, .slice A9 ct.length c9, .int .i64 wr9]
    rw [World.size_alloc] at bT1
    have hB1 : Below w.heap.size w ((w.alloc (.cells #[.int .i64 al, .int .i64 ah, .int .i64 bl, .int .i64 bh, .slice A cs.length c, .int .i64 wrn] 26)).alloc (.cells #[.int .i64 al9, .int .i64 ah9, .int .i64 bl9, .int .i64 bh9, .slice A9 ct.length c9, .int .i64 wr9] 26)) := by (repeat' (first | (with_reducible exact Below.refl _ _) | (with_reducible assumption) | (with_reducible refine Below.alloc ?_ ?_ _) | (with_reducible refine Below.drew ?_) | (with_reducible refine Below.setCell ?_ ?_ _) | go_size | (exact (by simp)) | omega))
    generalize World.alloc (World.alloc w _) _ = w1 at *
    obtain ⟨⟨s0, s1, s2⟩, s3, s4, s5⟩ := boxS6 bS1
    have lS1 := bS1.lt
    obtain ⟨⟨t0, t1, t2⟩, t3, t4, t5⟩ := boxS6 bT1
    have lT1 := bT1.lt
    go_wp2_with fail
    refine (HRD.out _ hB1).mono ?_
    rintro e w2 ⟨rfl, hb2⟩
    have bS2 := bS1.below hb2
    have bT2 := bT1.below hb2
    have hB2 := hB1.trans (hb2.mono hB1.size)
    clear s0 s1 s2 s3 s4 s5 lS1 t0 t1 t2 t3 t4 t5 lT1 bS1 bT1 hB1 hb2
    obtain ⟨⟨s0, s1, s2⟩, s3, s4, s5⟩ := boxS6 bS2
    have lS2 := bS2.lt
    obtain ⟨⟨t0, t1, t2⟩, t3, t4, t5⟩ := boxS6 bT2
    have lT2 := bT2.lt
    go_wp2_with fail
    go_returns
    exact ⟨rfl, hB2⟩
  | true =>
    rcases HSP.out rfl with rfl | rfl
    · obtain ⟨m, n, a1, a2, b1, b2, q, r, FS, FT, HA, HZ, HC, HD, HE, HF, HG, HH, HI, HJ, f1, f2, f3, f4, f5, f6⟩ := HALL.out rfl rfl
      clear HALL HM1 HM2 HSP HST
      go_enter Try.func20, Try.ntmps20
      go_wp2_with fail
      have bS1 := (BoxS.new w 26 #[.int .i64 al, .int .i64 ah, .int .i64 bl, .int .i64 bh, .slice A cs.length c, .int .i64 wrn]).alloc (.cells #[.int .i64 al9, .int .i64 ah9, .int .i64 bl9, .int .i64 bh9, .slice A9 ct.length c9, .int .i64 wr9] 26)
      have bT1 := BoxS.new (w.alloc (.cells #[.int .i64 al, .int .i64 ah, .int .i64 bl, .int .i64 bh, .slice A cs.length c, .int .i64 wrn] 26)) 26 #[.int .i64 al9, .int .i64 ah9, .int .i64 bl9, .int .i64 bh9, .slice A9 ct.length c9, .int .i64 wr9]
      rw [World.size_alloc] at bT1
      have hB1 : Below w.heap.size w ((w.alloc (.cells #[.int .i64 al, .int .i64 ah, .int .i64 bl, .int .i64 bh, .slice A cs.length c, .int .i64 wrn] 26)).alloc (.cells #[.int .i64 al9, .int .i64 ah9, .int .i64 bl9, .int .i64 bh9, .slice A9 ct.length c9, .int .i64 wr9] 26)) := by (repeat' (first | (with_reducible exact Below.refl _ _) | (with_reducible assumption) | (with_reducible refine Below.alloc ?_ ?_ _) | (with_reducible refine Below.drew ?_) | (with_reducible refine Below.setCell ?_ ?_ _) | go_size | (exact (by simp)) | omega))
      generalize World.alloc (World.alloc w _) _ = w1 at *
      obtain ⟨⟨s0, s1, s2⟩, s3, s4, s5⟩ := boxS6 bS1
      have lS1 := bS1.lt
      obtain ⟨⟨t0, t1, t2⟩, t3, t4, t5⟩ := boxS6 bT1
      have lT1 := bT1.lt
      go_wp2_with fail
      refine (HRD.out _ hB1).mono ?_
      rintro e w2 ⟨rfl, hb2⟩
      have bS2 := bS1.below hb2
      have bT2 := bT1.below hb2
      have hB2 := hB1.trans (hb2.mono hB1.size)
      clear s0 s1 s2 s3 s4 s5 lS1 t0 t1 t2 t3 t4 t5 lT1 bS1 bT1 hB1 hb2
      obtain ⟨⟨s0, s1, s2⟩, s3, s4, s5⟩ := boxS6 bS2
      have lS2 := bS2.lt
      obtain ⟨⟨t0, t1, t2⟩, t3, t4, t5⟩ := boxS6 bT2
      have lT2 := bT2.lt
      go_wp2_with fail
      have g1 : decide (m < 1) = false := decide_eq_false (by omega)
      have g2 : decide (n < m) = false := decide_eq_false (by omega)
      have g3 : ¬ m < 1 := by omega
      have g4 : ¬ n < m := by omega
      refine (HA.out _ hB2).mono ?_
      rintro e w3 ⟨rfl, hb3⟩
      have bS3 := bS2.below hb3
      have bT3 := bT2.below hb3
      have hB3 := hB2.trans (hb3.mono hB2.size)
      clear s0 s1 s2 s3 s4 s5 lS2 t0 t1 t2 t3 t4 t5 lT2 bS2 bT2 hB2 hb3
      obtain ⟨⟨s0, s1, s2⟩, s3, s4, s5⟩ := boxS6 bS3
      have lS3 := bS3.lt
      obtain ⟨⟨t0, t1, t2⟩, t3, t4, t5⟩ := boxS6 bT3
      have lT3 := bT3.lt
      go_wp2_with fail
      refine (HZ.out _ hB3).mono ?_
      rintro e w4 ⟨rfl, hb4⟩
      have bS4 := bS3.below hb4
      have bT4 := bT3.below hb4
      have hB4 := hB3.trans (hb4.mono hB3.size)
      clear s0 s1 s2 s3 s4 s5 lS3 t0 t1 t2 t3 t4 t5 lT3 bS3 bT3 hB3 hb4
      obtain ⟨⟨s0, s1, s2⟩, s3, s4, s5⟩ := boxS6 bS4
      have lS4 := bS4.lt
      obtain ⟨⟨t0, t1, t2⟩, t3, t4, t5⟩ := boxS6 bT4
      have lT4 := bT4.lt
      go_wp2_with fail
      refine (HIK.out _ _ (.inl rfl)).mono ?_
      rintro e7 w77 ⟨rfl, rfl⟩
      go_wp2_with fail
      refine (HIK.out _ _ (.inl rfl)).mono ?_
      rintro e7 w77 ⟨rfl, rfl⟩
      go_wp2_with fail
      clear s0 s1 s2 s3 s4 s5 lS4 t0 t1 t2 t3 t4 t5 lT4
      go_loopw [11] (fun x wr => ∃ k : Nat, (k : Int) ≤ 2 ∧ x = .int .i64 (1 + (k : Int)) ∧ Below w.heap.size w wr ∧ BoxS wr w.heap.size 26 #[.int .i64 al, .int .i64 ah, .int .i64 bl, .int .i64 bh, .slice A cs.length c, .int .i64 wrn] ∧ BoxS wr (w.heap.size + 1) 26 #[.int .i64 al9, .int .i64 ah9, .int .i64 bl9, .int .i64 bh9, .slice A9 ct.length c9, .int .i64 wr9]) (fun x _ => (3 - intOf x).toNat)
      case atStart => exact ⟨0, by omega, rfl, hB4, bS4, bT4⟩
      case round =>
        clear bS4 bT4 hB4
        obtain ⟨k, hk, rfl, hB4, bS4, bT4⟩ := hrel
        have hk0 := Int.natCast_nonneg k
        obtain ⟨w4, rfl⟩ : ∃ w4, w4 = wr := ⟨_, rfl⟩
        by_cases hlt : (k : Int) < 2
        · have hkn : k < 2 := by omega
          have hle : (1 : Int) + (k : Int) ≤ 2 := by omega
          have hw1 : IntKind.i64.wrap (1 + (k : Int) + 1) = 1 + (k : Int) + 1 := IntWalk.i64_in _ (by omega)
          have HC2 := Lib.hid (fun W hW => HC.out k W hkn hW)
          have HD2 := Lib.hid (fun W hW => HD.out k W hkn hW)
          have HE2 := Lib.hid (fun v v' W => HE.out k v v' W hkn)
          have hln := HF.out k hkn
          have hln2 : decide (300 < ((FT k).length : Int)) = false := decide_eq_false (by omega)
          have hln3 : ¬ 300 < (FT k).length := by omega
          have hln4 : decide (300 < (FT k).length) = false := decide_eq_false hln3
          clear hlt
          generalize FS k = FL at *
          generalize FT k = FR at *
          obtain ⟨⟨s0, s1, s2⟩, s3, s4, s5⟩ := boxS6 bS4
          have lS4 := bS4.lt
          obtain ⟨⟨t0, t1, t2⟩, t3, t4, t5⟩ := boxS6 bT4
          have lT4 := bT4.lt
          go_wp2_with fail
          refine (HC2.out _ hB4).mono ?_
          rintro e w5 ⟨B1, d1, rfl, hi1, hb5⟩
          have bS5 := bS4.below hb5
          have bT5 := bT4.below hb5
          have hB5 := hB4.trans (hb5.mono hB4.size)
          clear s0 s1 s2 s3 s4 s5 lS4 t0 t1 t2 t3 t4 t5 lT4 bS4 bT4 hB4 hb5
          have HI1_5 := hi1
          clear hi1
          obtain ⟨⟨s0, s1, s2⟩, s3, s4, s5⟩ := boxS6 bS5
          have lS5 := bS5.lt
          obtain ⟨⟨t0, t1, t2⟩, t3, t4, t5⟩ := boxS6 bT5
          have lT5 := bT5.lt
          go_wp2_with fail
          refine (HD2.out _ hB5).mono ?_
          rintro e w6 ⟨B2, d2, rfl, hi2, hb6⟩
          have HI1_6 := Lib.hid (Ints.more (Ints.keep HI1_5.out hb6) hb6.size)
          have bS6 := bS5.below hb6
          have bT6 := bT5.below hb6
          have hB6 := hB5.trans (hb6.mono hB5.size)
          clear s0 s1 s2 s3 s4 s5 lS5 t0 t1 t2 t3 t4 t5 lT5 bS5 bT5 hB5 hb6 HI1_5
          go_wp2_with fail
          refine (HE2.out _ _ _ HI1_6.out hi2.out).mono ?_
          rintro e w7 ⟨rfl, hb7⟩
          have bS7 := bS6.below hb7
          have bT7 := bT6.below hb7
          have hB7 := hB6.trans (hb7.mono hB6.size)
          clear bS6 bT6 hB6 hb7
          go_wp2_with fail
          go_roundw
          case rel => exact ⟨k + 1, by omega, by go_num, hB7, bS7, bT7⟩
          case measure => simp [intOf]; omega
        · obtain rfl : k = 2 := by omega
          clear hlt hk0 hk
          have hle : ¬ (1 : Int) + ((2 : Nat) : Int) ≤ 2 := by omega
          obtain ⟨⟨s0, s1, s2⟩, s3, s4, s5⟩ := boxS6 bS4
          have lS4 := bS4.lt
          obtain ⟨⟨t0, t1, t2⟩, t3, t4, t5⟩ := boxS6 bT4
          have lT4 := bT4.lt
          go_wp2_with fail
          refine (HG.out _ hB4).mono ?_
          rintro e w5 ⟨rfl, hb5⟩
          have bS5 := bS4.below hb5
          have bT5 := bT4.below hb5
          have hB5 := hB4.trans (hb5.mono hB4.size)
          clear s0 s1 s2 s3 s4 s5 lS4 t0 t1 t2 t3 t4 t5 lT4 bS4 bT4 hB4 hb5
          obtain ⟨⟨s0, s1, s2⟩, s3, s4, s5⟩ := boxS6 bS5
          have lS5 := bS5.lt
          obtain ⟨⟨t0, t1, t2⟩, t3, t4, t5⟩ := boxS6 bT5
          have lT5 := bT5.lt
          go_wp2_with fail
          have bP6n := BoxS.new w5 23 #[.int .i64 a1, .int .i64 a2]
          have hbx : Below w5.heap.size w5 (w5.alloc (.cells #[.int .i64 a1, .int .i64 a2] 23)) := (Below.refl _ _).alloc (Nat.le_refl _) _
          have bS6 := bS5.below hbx
          have bT6 := bT5.below hbx
          have hB6 := hB5.trans (hbx.mono hB5.size)
          obtain ⟨BP, hBe⟩ : ∃ B, B = w5.heap.size := ⟨_, rfl⟩
          have kP : w.heap.size + 1 < BP := by have := bT5.lt; omega
          rw [← hBe] at bP6n ⊢
          have bP6 := bP6n
          clear s0 s1 s2 s3 s4 s5 lS5 t0 t1 t2 t3 t4 t5 lT5 bS5 bT5 hB5 hbx hBe bP6n
          generalize World.alloc w5 _ = w6 at *
          obtain ⟨⟨s0, s1, s2⟩, s3, s4, s5⟩ := boxS6 bS6
          have lS6 := bS6.lt
          obtain ⟨⟨t0, t1, t2⟩, t3, t4, t5⟩ := boxS6 bT6
          have lT6 := bT6.lt
          go_wp2_with fail
          refine (HH.out _ hB6).mono ?_
          rintro e w7 ⟨rfl, hb7⟩
          have bS7 := bS6.below hb7
          have bT7 := bT6.below hb7
          have bP7 := bP6.below hb7
          have hB7 := hB6.trans (hb7.mono hB6.size)
          clear s0 s1 s2 s3 s4 s5 lS6 t0 t1 t2 t3 t4 t5 lT6 bS6 bT6 bP6 hB6 hb7
          obtain ⟨⟨s0, s1, s2⟩, s3, s4, s5⟩ := boxS6 bS7
          have lS7 := bS7.lt
          obtain ⟨⟨t0, t1, t2⟩, t3, t4, t5⟩ := boxS6 bT7
          have lT7 := bT7.lt
          obtain ⟨p0, p1⟩ := boxS2 bP7
          have lP7 := bP7.lt
          go_wp2_with fail
          have bQ8n := BoxS.new w7 23 #[.int .i64 b1, .int .i64 b2]
          have hbx : Below w7.heap.size w7 (w7.alloc (.cells #[.int .i64 b1, .int .i64 b2] 23)) := (Below.refl _ _).alloc (Nat.le_refl _) _
          have bS8 := bS7.below hbx
          have bT8 := bT7.below hbx
          have bP8 := bP7.below hbx
          have hB8 := hB7.trans (hbx.mono hB7.size)
          obtain ⟨BQ, hBe⟩ : ∃ B, B = w7.heap.size := ⟨_, rfl⟩
          have kQ : BP < BQ := by have := bP7.lt; omega
          rw [← hBe] at bQ8n ⊢
          have bQ8 := bQ8n
          clear s0 s1 s2 s3 s4 s5 lS7 t0 t1 t2 t3 t4 t5 lT7 p0 p1 lP7 bS7 bT7 bP7 hB7 hbx hBe bQ8n
          generalize World.alloc w7 _ = w8 at *
          obtain ⟨⟨s0, s1, s2⟩, s3, s4, s5⟩ := boxS6 bS8
          have lS8 := bS8.lt
          obtain ⟨⟨t0, t1, t2⟩, t3, t4, t5⟩ := boxS6 bT8
          have lT8 := bT8.lt
          obtain ⟨p0, p1⟩ := boxS2 bP8
          have lP8 := bP8.lt
          go_wp2_with fail
          refine (HI.out _ hB8).mono ?_
          rintro e w9 ⟨rfl, hb9⟩
          have bS9 := bS8.below hb9
          have bT9 := bT8.below hb9
          have bP9 := bP8.below hb9
          have bQ9 := bQ8.below hb9
          have hB9 := hB8.trans (hb9.mono hB8.size)
          clear s0 s1 s2 s3 s4 s5 lS8 t0 t1 t2 t3 t4 t5 lT8 p0 p1 lP8 bS8 bT8 bP8 bQ8 hB8 hb9
          obtain ⟨⟨s0, s1, s2⟩, s3, s4, s5⟩ := boxS6 bS9
          have lS9 := bS9.lt
          obtain ⟨⟨t0, t1, t2⟩, t3, t4, t5⟩ := boxS6 bT9
          have lT9 := bT9.lt
          obtain ⟨p0, p1⟩ := boxS2 bP9
          have lP9 := bP9.lt
          obtain ⟨q0, q1⟩ := boxS2 bQ9
          have lQ9 := bQ9.lt
          go_wp2_with fail
          refine (HJ.out _ hB9).mono ?_
          rintro e w10 ⟨rfl, hb10⟩
          have bS10 := bS9.below hb10
          have bT10 := bT9.below hb10
          have bP10 := bP9.below hb10
          have bQ10 := bQ9.below hb10
          have hB10 := hB9.trans (hb10.mono hB9.size)
          clear s0 s1 s2 s3 s4 s5 lS9 t0 t1 t2 t3 t4 t5 lT9 p0 p1 lP9 q0 q1 lQ9 bS9 bT9 bP9 bQ9 hB9 hb10
          obtain ⟨p0, p1⟩ := boxS2 bP10
          have lP10 := bP10.lt
          obtain ⟨q0, q1⟩ := boxS2 bQ10
          have lQ10 := bQ10.lt
          have d1 : decide (b1 ≤ a1) = true := decide_eq_true f3
          have d2 : decide (a1 ≤ a2) = true := decide_eq_true f4
          have d3 : decide (a2 ≤ b2) = true := decide_eq_true f5
          rcases f6 with rfl | rfl
          · go_wp2_with fail
            go_returns
            exact ⟨rfl, hB10⟩
          · by_cases h3 : q = 3
            · subst h3
              go_wp2_with fail
              go_returns
              exact ⟨rfl, hB10⟩
            · have h4 : (q == 3) = false := by simpa using h3
              go_wp2_with fail
              go_returns
              exact ⟨rfl, hB10⟩
    · have HIK2 := Lib.hid (fun W => HIK.out _ W HST.out)
      clear HALL HSP HST
      go_enter Try.func20, Try.ntmps20
      go_wp2_with fail
      have bS1 := (BoxS.new w 26 #[.int .i64 al, .int .i64 ah, .int .i64 bl, .int .i64 bh, .slice A cs.length c, .int .i64 wrn]).alloc (.cells #[.int .i64 al9, .int .i64 ah9, .int .i64 bl9, .int .i64 bh9, .slice A9 ct.length c9, .int .i64 wr9] 26)
      have bT1 := BoxS.new (w.alloc (.cells #[.int .i64 al, .int .i64 ah, .int .i64 bl, .int .i64 bh, .slice A cs.length c, .int .i64 wrn] 26)) 26 #[.int .i64 al9, .int .i64 ah9, .int .i64 bl9, .int .i64 bh9, .slice A9 ct.length c9, .int .i64 wr9]
      rw [World.size_alloc] at bT1
      have hB1 : Below w.heap.size w ((w.alloc (.cells #[.int .i64 al, .int .i64 ah, .int .i64 bl, .int .i64 bh, .slice A cs.length c, .int .i64 wrn] 26)).alloc (.cells #[.int .i64 al9, .int .i64 ah9, .int .i64 bl9, .int .i64 bh9, .slice A9 ct.length c9, .int .i64 wr9] 26)) := by (repeat' (first | (with_reducible exact Below.refl _ _) | (with_reducible assumption) | (with_reducible refine Below.alloc ?_ ?_ _) | (with_reducible refine Below.drew ?_) | (with_reducible refine Below.setCell ?_ ?_ _) | go_size | (exact (by simp)) | omega))
      generalize World.alloc (World.alloc w _) _ = w1 at *
      obtain ⟨⟨s0, s1, s2⟩, s3, s4, s5⟩ := boxS6 bS1
      have lS1 := bS1.lt
      obtain ⟨⟨t0, t1, t2⟩, t3, t4, t5⟩ := boxS6 bT1
      have lT1 := bT1.lt
      go_wp2_with fail
      refine (HRD.out _ hB1).mono ?_
      rintro e w2 ⟨rfl, hb2⟩
      have bS2 := bS1.below hb2
      have bT2 := bT1.below hb2
      have hB2 := hB1.trans (hb2.mono hB1.size)
      clear s0 s1 s2 s3 s4 s5 lS1 t0 t1 t2 t3 t4 t5 lT1 bS1 bT1 hB1 hb2
      obtain ⟨⟨s0, s1, s2⟩, s3, s4, s5⟩ := boxS6 bS2
      have lS2 := bS2.lt
      obtain ⟨⟨t0, t1, t2⟩, t3, t4, t5⟩ := boxS6 bT2
      have lT2 := bT2.lt
      go_wp2_with fail
      refine (HM1.out _ hB2).mono ?_
      rintro e w3 ⟨rfl, hb3⟩
      have bS3 := bS2.below hb3
      have bT3 := bT2.below hb3
      have hB3 := hB2.trans (hb3.mono hB2.size)
      clear s0 s1 s2 s3 s4 s5 lS2 t0 t1 t2 t3 t4 t5 lT2 bS2 bT2 hB2 hb3
      obtain ⟨⟨s0, s1, s2⟩, s3, s4, s5⟩ := boxS6 bS3
      have lS3 := bS3.lt
      obtain ⟨⟨t0, t1, t2⟩, t3, t4, t5⟩ := boxS6 bT3
      have lT3 := bT3.lt
      go_wp2_with fail
      refine (HM2.out _ hB3).mono ?_
      rintro e w4 ⟨rfl, hb4⟩
      have bS4 := bS3.below hb4
      have bT4 := bT3.below hb4
      have hB4 := hB3.trans (hb4.mono hB3.size)
      clear s0 s1 s2 s3 s4 s5 lS3 t0 t1 t2 t3 t4 t5 lT3 bS3 bT3 hB3 hb4
      obtain ⟨⟨s0, s1, s2⟩, s3, s4, s5⟩ := boxS6 bS4
      have lS4 := bS4.lt
      obtain ⟨⟨t0, t1, t2⟩, t3, t4, t5⟩ := boxS6 bT4
      have lT4 := bT4.lt
      go_wp2_with fail
      refine (HIK.out _ _ (.inr rfl)).mono ?_
      rintro e7 w77 ⟨rfl, rfl⟩
      go_wp2_with fail
      refine (HIK2.out _).mono ?_
      rintro e7 w77 ⟨rfl, rfl⟩
      go_wp2_with fail
      go_returns
      exact ⟨rfl, hB4⟩
end Go.Proofs.Ytgpmnkdagpcffaa
