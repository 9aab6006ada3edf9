/- Trials, plain: some of the tests decide as all of them do. -/
import Derived.Test.YtkmacpkjobdffaaGreatTjB
import Derived.Test.YtkmacpkjobdffaaGreatTzB
namespace Go.Proofs.YtkmacpkjobdffaaGreat
open Go.RowKit Go.Maps
namespace Ti
def decR (L : List Nat) : List Int := match L with | [] => [] | s0 :: _ => listTo s0 6
def decV (t : Tri) (sz mo : Int) : List Int := if smE t sz mo (opE t (classB sz mo)) = 0 then decR (smR t sz mo (opE t (classB sz mo))) else []
/-- The tests that are in each of the first sets. -/
def ndTo (L : List Nat) : Nat → Nat
  | 0 => L.headD 0
  | k + 1 => (ndTo L k) &&& ((L[k]?).getD 0)
def ndV (t : Tri) (sz mo : Int) : List Int := if smE t sz mo (opE t (classB sz mo)) = 0 then listTo (ndTo (smR t sz mo (opE t (classB sz mo))) (smR t sz mo (opE t (classB sz mo))).length) 6 else []
theorem and_fin : ∀ (a b : Fin 64), bits BinOp.and IntKind.u64 (a.val : Int) (b.val : Int) = ((a.val &&& b.val : Nat) : Int) ∧ a.val &&& b.val < 64 := by decide +kernel
theorem and_any {a b : Nat} (ha : a < 64) (hb : b < 64) : bits BinOp.and IntKind.u64 (a : Int) (b : Int) = ((a &&& b : Nat) : Int) ∧ a &&& b < 64 := and_fin ⟨a, ha⟩ ⟨b, hb⟩
theorem sm_lt {t : Tri} {sz mo : Int} : ∀ s ∈ smR t sz mo (opE t (classB sz mo)), s < 64 := fun s hs => by
  unfold smR at hs
  by_cases h0 : opE t (classB sz mo) = 0
  · rw [if_pos h0] at hs
    obtain ⟨h2, _⟩ := op_ok h0
    obtain ⟨_, _, h3, _⟩ := chk_ok h2
    exact Nat.lt_of_lt_of_le (smL_lt hs) (pow_le6 h3)
  · rw [if_neg h0] at hs; cases hs
theorem ndTo_lt {L : List Nat} (h : ∀ s ∈ L, s < 64) (hn : L ≠ []) : ∀ k, k ≤ L.length → ndTo L k < 64
  | 0, _ => by
    cases L with
    | nil => exact absurd rfl hn
    | cons a b => exact h a (List.mem_cons_self ..)
  | k + 1, hk => by
    have e : L[k]? = some L[k] := List.getElem?_eq_getElem (by omega)
    show ndTo L k &&& ((L[k]?).getD 0) < 64
    rw [e]
    exact (and_any (ndTo_lt h hn k (by omega)) (h _ (List.getElem_mem (by omega)))).2
theorem ndTo_succ {L : List Nat} {k s : Nat} (h : L[k]? = some s) : ndTo L (k + 1) = ndTo L k &&& s := by
  show ndTo L k &&& ((L[k]?).getD 0) = _
  rw [h]; rfl
theorem smL_len (t : Tri) (sz mo : Int) : (smR t sz mo (opE t (classB sz mo))).length ≤ 64 := by
  unfold smR
  by_cases h0 : opE t (classB sz mo) = 0
  · rw [if_pos h0]
    obtain ⟨h2, _⟩ := op_ok h0
    obtain ⟨_, _, h3, _⟩ := chk_ok h2
    have key : ∀ k, (smTo t sz mo k).length ≤ 64 := by
      intro k
      induction k with
      | zero => simp [smTo]
      | succ k ih =>
        unfold smTo
        split
        · exact Nat.le_trans (decTo_len t sz mo k _) (pow_le6 h3)
        · exact ih
    exact key _
  · rw [if_neg h0]; simp
end Ti
set_option maxRecDepth 100000 in
set_option maxHeartbeats 8000000 in
theorem Decide_any (t : Ti.Tri) (sz mo : Int) (A : Option Addr) (c : Nat) (w : World) (hl : t.ts.length ≤ 1000000000) (hg : Tsts w w.heap.size A t.ts) :
    Calls Tryz.prog 33 #[.agg (tiV t A c), .agg #[.int .i64 sz, .int .i64 mo]] w (IntsEPost (Ti.decV t sz mo) (Ti.smE t sz mo (Ti.opE t (Ti.classB sz mo))) w) := by
  have HSM : Hid (∀ W, Below w.heap.size w W → Calls Tryz.prog 73 #[.agg (tiV t A c), .agg #[.int .i64 sz, .int .i64 mo]] W (SmPost (Ti.smR t sz mo (Ti.opE t (Ti.classB sz mo))) (Ti.smE t sz mo (Ti.opE t (Ti.classB sz mo))) W)) := fun W hW => smallest_any t sz mo A c W hl ((hg.keep hW).wider hW.size)
  have HSK : Hid (Ti.smE t sz mo (Ti.opE t (Ti.classB sz mo)) = 0 → ∃ s0 rest, Ti.smR t sz mo (Ti.opE t (Ti.classB sz mo)) = s0 :: rest ∧ s0 < 64) := Ti.sm_head
  have HCN : Hid (∀ s : Nat, s < 64 → ∀ W, Calls Tryz.prog 76 #[.int .u64 s] W fun e w' => ∃ v, e = .returned v ∧ Hid (Ints w' w'.heap.size v (Ti.listTo s 6)) ∧ Below W.heap.size W w') := fun s hs W => list_any s hs W
  have HFV : Hid (Ti.decV t sz mo = if Ti.smE t sz mo (Ti.opE t (Ti.classB sz mo)) = 0 then Ti.decR (Ti.smR t sz mo (Ti.opE t (Ti.classB sz mo))) else []) := rfl
  clear hg
  unfold SmPost at HSM
  unfold IntsEPost
  generalize Ti.decV t sz mo = FW at *
  generalize Ti.smE t sz mo (Ti.opE t (Ti.classB sz mo)) = SE at *
  generalize Ti.smR t sz mo (Ti.opE t (Ti.classB sz mo)) = SR at *
  unfold tiV at *
  obtain ⟨d, gain, ts⟩ := t
  obtain ⟨full, read, slip, skew, circ, glo, ghi, wrn, dws⟩ := d
  dsimp only at *
  go_enter Tryz.func33, Tryz.ntmps33
  go_wp2_with fail
  have hB1 : Below w.heap.size w ((w.alloc (.cells #[.int .i64 full, .int .i64 read, .int .i64 slip, .int .i64 skew, .int .i64 circ, .int .i64 glo, .int .i64 ghi, .int .i64 wrn, .int .i64 gain, .slice A ts.length c] 28)).alloc (.cells #[.int .i64 sz, .int .i64 mo] 45)) := by (repeat' (first | (with_reducible exact Below.refl _ _) | (with_reducible assumption) | (with_reducible refine Below.alloc ?_ ?_ _) | (with_reducible refine Below.drew ?_) | (with_reducible refine Below.setCell ?_ ?_ _) | go_size | (exact (by simp)) | omega))
  generalize World.alloc (World.alloc w _) _ = w1 at *
  refine (HSM.out _ hB1).mono ?_
  rintro e w2 ⟨v, rfl, hv, hb2⟩
  have hB2 := hB1.trans (hb2.mono hB1.size)
  obtain ⟨A2, c2, rfl⟩ := owni_form hv.out
  clear hb2 hB1 HSM
  by_cases h0 : SE = 0
  · have hne : (SE != 0) = false := by simp [h0]
    obtain ⟨s0, rest, rfl, h64⟩ := HSK.out h0
    have hlen : (s0 :: rest).length = rest.length + 1 := rfl
    rcases hv.out.2 with ⟨e, _⟩ | ⟨g, cap, cur, e, a2, a3, a4⟩
    · injection e with _ e; simp at e
    have eA : A2 = some ⟨g, 0, none⟩ := by injection e
    subst eA
    have hc0 : w2.cell? ⟨g, 0, none⟩ = some (.int .u64 (s0 : Int)) := hv.out.cells (g := g) rfl 0 _ rfl
    have hli : (0 : Int) < ((s0 :: rest).length : Int) := by rw [hlen]; omega
    have hli2 : decide ((0 : Int) < ((s0 :: rest).length : Int)) = true := decide_eq_true hli
    clear e a3 a4
    go_wp2_with fail
    refine (HCN.out s0 h64 _).mono ?_
    rintro e w3 ⟨v3, rfl, hv3, hb3⟩
    go_wp2_with fail
    go_returns
    refine ⟨v3, by rw [h0]; rfl, ?_, hB2.trans (hb3.mono hB2.size)⟩
    rw [HFV.out, if_pos h0]
    exact hv3
  · have hne : (SE != 0) = true := by simpa using h0
    go_wp2_with fail
    go_returns
    exact ⟨_, rfl, by rw [HFV.out, if_neg h0]; exact .inl ⟨rfl, rfl⟩, hB2⟩
set_option maxRecDepth 100000 in
set_option maxHeartbeats 8000000 in
theorem Needed_any (t : Ti.Tri) (sz mo : Int) (A : Option Addr) (c : Nat) (w : World) (hl : t.ts.length ≤ 1000000000) (hg : Tsts w w.heap.size A t.ts) :
    Calls Tryz.prog 31 #[.agg (tiV t A c), .agg #[.int .i64 sz, .int .i64 mo]] w (IntsEPost (Ti.ndV t sz mo) (Ti.smE t sz mo (Ti.opE t (Ti.classB sz mo))) w) := by
  have HSM : Hid (∀ W, Below w.heap.size w W → Calls Tryz.prog 73 #[.agg (tiV t A c), .agg #[.int .i64 sz, .int .i64 mo]] W (SmPost (Ti.smR t sz mo (Ti.opE t (Ti.classB sz mo))) (Ti.smE t sz mo (Ti.opE t (Ti.classB sz mo))) W)) := fun W hW => smallest_any t sz mo A c W hl ((hg.keep hW).wider hW.size)
  have HSK : Hid (Ti.smE t sz mo (Ti.opE t (Ti.classB sz mo)) = 0 → ∃ s0 rest, Ti.smR t sz mo (Ti.opE t (Ti.classB sz mo)) = s0 :: rest ∧ s0 < 64) := Ti.sm_head
  have HCN : Hid (∀ s : Nat, s < 64 → ∀ W, Calls Tryz.prog 76 #[.int .u64 s] W fun e w' => ∃ v, e = .returned v ∧ Hid (Ints w' w'.heap.size v (Ti.listTo s 6)) ∧ Below W.heap.size W w') := fun s hs W => list_any s hs W
  have HFV : Hid (Ti.ndV t sz mo = if Ti.smE t sz mo (Ti.opE t (Ti.classB sz mo)) = 0 then Ti.listTo (Ti.ndTo (Ti.smR t sz mo (Ti.opE t (Ti.classB sz mo))) (Ti.smR t sz mo (Ti.opE t (Ti.classB sz mo))).length) 6 else []) := rfl
  have HLT : Hid (∀ s ∈ Ti.smR t sz mo (Ti.opE t (Ti.classB sz mo)), s < 64) := Ti.sm_lt
  have hln : (Ti.smR t sz mo (Ti.opE t (Ti.classB sz mo))).length ≤ 64 := Ti.smL_len t sz mo
  clear hg
  unfold SmPost at HSM
  unfold IntsEPost
  generalize Ti.ndV t sz mo = FW at *
  generalize Ti.smE t sz mo (Ti.opE t (Ti.classB sz mo)) = SE at *
  generalize Ti.smR t sz mo (Ti.opE t (Ti.classB sz mo)) = SR at *
  unfold tiV at *
  obtain ⟨d, gain, ts⟩ := t
  obtain ⟨full, read, slip, skew, circ, glo, ghi, wrn, dws⟩ := d
  dsimp only at *
  go_enter Tryz.func31, Tryz.ntmps31
  go_wp2_with fail
  have hB1 : Below w.heap.size w ((w.alloc (.cells #[.int .i64 full, .int .i64 read, .int .i64 slip, .int .i64 skew, .int .i64 circ, .int .i64 glo, .int .i64 ghi, .int .i64 wrn, .int .i64 gain, .slice A ts.length c] 28)).alloc (.cells #[.int .i64 sz, .int .i64 mo] 45)) := by (repeat' (first | (with_reducible exact Below.refl _ _) | (with_reducible assumption) | (with_reducible refine Below.alloc ?_ ?_ _) | (with_reducible refine Below.drew ?_) | (with_reducible refine Below.setCell ?_ ?_ _) | go_size | (exact (by simp)) | omega))
  generalize World.alloc (World.alloc w _) _ = w1 at *
  refine (HSM.out _ hB1).mono ?_
  rintro e w2 ⟨v, rfl, hv, hb2⟩
  have hB2 := hB1.trans (hb2.mono hB1.size)
  obtain ⟨A2, c2, rfl⟩ := owni_form hv.out
  clear hb2 hB1 HSM
  by_cases h0 : SE = 0
  · have hne : (SE != 0) = false := by simp [h0]
    obtain ⟨s0, rest, rfl, h64⟩ := HSK.out h0
    have hlen : (s0 :: rest).length = rest.length + 1 := rfl
    rcases hv.out.2 with ⟨e, _⟩ | ⟨g, cap, cur, e, a2, a3, a4⟩
    · injection e with _ e; simp at e
    have eA : A2 = some ⟨g, 0, none⟩ := by injection e
    subst eA
    have hc0 : w2.cell? ⟨g, 0, none⟩ = some (.int .u64 (s0 : Int)) := hv.out.cells (g := g) rfl 0 _ rfl
    have hli : (0 : Int) < ((s0 :: rest).length : Int) := by rw [hlen]; omega
    have hli2 : decide ((0 : Int) < ((s0 :: rest).length : Int)) = true := decide_eq_true hli
    have hblk := a3
    clear e a3 a4
    have hN0 : Ti.ndTo (s0 :: rest) 0 = s0 := rfl
    have HND := Lib.hid (Ti.ndTo_lt (L := s0 :: rest) HLT.out (by simp))
    have HNS := Lib.hid (fun k s (h : (s0 :: rest)[k]? = some s) => Ti.ndTo_succ h)
    have HCC := Lib.hid (fun V (hV : Below w2.heap.size w2 V) (k : Nat) (y : Nat) (hy : (s0 :: rest)[k]? = some y) => (hV.cell (p := ⟨g, k, none⟩) (Array.getElem?_eq_some_iff.1 hblk).1).trans (show w2.cell? ⟨g, k, none⟩ = some (.int .u64 (y : Int)) from by
      have := hv.out.cells (g := g) rfl k (.int .u64 (y : Int)) (by rw [List.getElem?_map, hy]; rfl)
      by_cases e0 : k = 0
      · subst e0; simpa [Addr.add] using this
      · simpa [Addr.add, e0] using this))
    have hgl : g < w2.heap.size := (Array.getElem?_eq_some_iff.1 hblk).1
    clear hblk hv
    go_wp2_with fail
    have hrl : (rest.length : Int) + 1 = ((s0 :: rest).length : Int) := by simp
    generalize hLL : s0 :: rest = LL at *
    clear hc0
    simp only [hrl]
    clear hrl
    go_loopw [8, 10, 25] (fun x8 x10 x25 wr => ∃ k : Nat, (k : Int) ≤ LL.length ∧ x8 = .int .u64 (Ti.ndTo LL k : Int) ∧ x25 = .int .i64 (k : Int) ∧ Below w2.heap.size w2 wr) (fun _ _ x25 _ => (LL.length - intOf x25).toNat)
    case atStart => exact ⟨0, by omega, by rw [hN0], rfl, Below.refl _ _⟩
    case round =>
      obtain ⟨k, hk, rfl, rfl, hB⟩ := hrel
      have hk0 := Int.natCast_nonneg k
      by_cases hlt : (k : Int) < LL.length
      · have hkn : k < LL.length := by omega
        have hw1 : IntKind.i64.wrap ((k : Int) + 1) = (k : Int) + 1 := IntWalk.i64_in _ (by omega)
        obtain ⟨sk, hsk⟩ : ∃ sk, LL[k]? = some sk := ⟨_, List.getElem?_eq_getElem hkn⟩
        have h64k := HLT.out sk (List.mem_of_getElem? hsk)
        have hnk := HND.out k (by omega)
        obtain ⟨hand, _⟩ := Ti.and_any hnk h64k
        have y := HCC.out _ hB k sk hsk
        have hgr : g < wr.heap.size := by have := hB.size; omega
        go_wp2_with fail
        go_roundw
        case rel => exact ⟨k + 1, by omega, by rw [HNS.out k sk hsk], by go_num, hB⟩
        case measure => simp [intOf]; omega
      · have ek : k = LL.length := by omega
        subst ek
        have hnk := HND.out LL.length (Nat.le_refl _)
        have HLI := Lib.hid (HCN.out _ hnk)
        generalize Ti.ndTo LL LL.length = ND at *
        go_wp2_with fail
        refine (HLI.out _).mono ?_
        rintro e w3 ⟨v3, rfl, hv3, hb3⟩
        go_wp2_with fail
        go_returns
        refine ⟨v3, by rw [h0]; rfl, ?_, hB2.trans ((hB.trans (hb3.mono hB.size)).mono hB2.size)⟩
        rw [HFV.out, if_pos h0]
        exact hv3
  · have hne : (SE != 0) = true := by simpa using h0
    go_wp2_with fail
    go_returns
    exact ⟨_, rfl, by rw [HFV.out, if_neg h0]; exact .inl ⟨rfl, rfl⟩, hB2⟩
end Go.Proofs.YtkmacpkjobdffaaGreat
namespace Go.Proofs.YtkmacpkjobdffaaGreat
open Go.RowKit
namespace Ti
/-- What a test allows. -/
def tstB (t : Tri) (x : Gk) (y : Tst) : Bool := skewB (dsk t (seenV x.1 y.1) y.2) x.2
theorem mem_truths {t : Tri} (hg : 0 ≤ t.gain ∧ t.gain ≤ 50) (hk : 0 ≤ t.d.skew ∧ t.d.skew ≤ 20) {x : GkS} : x ∈ truthsL t ↔ x ∈ casesL t ∧ ∀ y ∈ t.ts, tstB t x.1 y = true := by
  rw [truths_fast hg hk]
  unfold fastL fastTo
  rw [List.mem_filter, List.all_eq_true]
  constructor
  · rintro ⟨h1, h2⟩
    refine ⟨h1, fun y hy => ?_⟩
    obtain ⟨k, hk⟩ := List.mem_iff_getElem?.1 hy
    have hl := (List.getElem?_eq_some_iff.1 hk).1
    have := h2 k (List.mem_range.2 hl)
    have e : tstAt t.ts k = y := by unfold tstAt; rw [hk]; rfl
    unfold fastB at this
    rw [e] at this
    exact this
  · rintro ⟨h1, h2⟩
    refine ⟨h1, fun k hk => ?_⟩
    have hl := List.mem_range.1 hk
    have e : t.ts[k]? = some t.ts[k] := List.getElem?_eq_getElem hl
    have e2 : tstAt t.ts k = t.ts[k] := by unfold tstAt; rw [e]; rfl
    unfold fastB
    rw [e2]
    exact h2 _ (List.getElem_mem hl)
theorem just_sub {t : Tri} {s : Nat} (hs : s < 2 ^ t.ts.length) : ∀ y ∈ (justT t s).ts, y ∈ t.ts := fun y hy => by
  unfold justT at hy
  obtain ⟨i, hi, rfl⟩ := List.mem_map.1 hy
  have h1 := listTo_lt hs i hi
  have h0 : 0 ≤ i := by
    unfold listTo at hi
    obtain ⟨k, _, rfl⟩ := List.mem_map.1 hi
    omega
  have hl : i.toNat < t.ts.length := by omega
  have e : t.ts[i.toNat]? = some t.ts[i.toNat] := List.getElem?_eq_getElem hl
  unfold tstAt
  rw [e]
  exact List.getElem_mem hl
/-- Fewer tests leave each truth. -/
theorem truths_sub {t : Tri} (hg : 0 ≤ t.gain ∧ t.gain ≤ 50) (hk : 0 ≤ t.d.skew ∧ t.d.skew ≤ 20) {s : Nat} (hs : s < 2 ^ t.ts.length) : ∀ x ∈ truthsL t, x ∈ truthsL (justT t s) := fun x hx => by
  have h := (mem_truths hg hk).1 hx
  refine (mem_truths (t := justT t s) hg hk).2 ⟨h.1, fun y hy => ?_⟩
  exact h.2 y (just_sub hs y hy)
theorem err_bd {sz : Int} (hz : 0 ≤ sz ∧ sz ≤ 9000) (x : GkS) : 0 ≤ errV x.1 sz ∧ errV x.1 sz ≤ 100000 := by
  have h := x.2
  unfold gsm at h
  have h1 := seen_bd h.1 hz
  unfold errV sizeV
  omega
/-- A certificate by fewer tests, if it is none of perhaps, is that by all. -/
theorem cert_all {t : Tri} (hg : 0 ≤ t.gain ∧ t.gain ≤ 50) (hk : 0 ≤ t.d.skew ∧ t.d.skew ≤ 20) (hn : truthsL t ≠ []) {sz mo : Int} (hz : 0 ≤ sz ∧ sz ≤ 9000) {s : Nat} (hs : s < 2 ^ t.ts.length) (h3 : certJ t sz mo s ≠ 3) :
    certJ t sz mo s = cerV (lowL (fun x => errV x sz) (truthsL t)) (highL (fun x => errV x sz) (truthsL t)) mo := by
  have hsub := truths_sub hg hk hs
  have hne : truthsL (justT t s) ≠ [] := fun h => by
    cases hL : truthsL t with
    | nil => exact hn hL
    | cons x l =>
      have := hsub x (by rw [hL]; exact List.mem_cons_self ..)
      rw [h] at this
      cases this
  obtain ⟨⟨x1, hx1, e1⟩, l1⟩ := lowL_spec (fun x => errV x sz) (truthsL t) (fun x _ => by have := (err_bd hz x).2; omega) hn
  obtain ⟨⟨x2, hx2, e2⟩, l2⟩ := highL_spec (fun x => errV x sz) (truthsL t) (fun x _ => by have := (err_bd hz x).1; omega) hn
  obtain ⟨_, j1⟩ := lowL_spec (fun x => errV x sz) (truthsL (justT t s)) (fun x _ => by have := (err_bd hz x).2; omega) hne
  obtain ⟨_, j2⟩ := highL_spec (fun x => errV x sz) (truthsL (justT t s)) (fun x _ => by have := (err_bd hz x).1; omega) hne
  have a1 := j1 x1 (hsub x1 hx1)
  have a2 := j2 x2 (hsub x2 hx2)
  have a3 := l1 x2 hx2
  unfold certJ at h3 ⊢
  unfold cerV at *
  by_cases c1 : highL (fun x => errV x sz) (truthsL (justT t s)) ≤ mo
  · rw [if_pos c1, if_pos (by omega)]
  · rw [if_neg c1] at h3 ⊢
    by_cases c2 : mo < lowL (fun x => errV x sz) (truthsL (justT t s))
    · rw [if_pos c2, if_neg (by omega), if_pos (by omega)]
    · rw [if_neg c2] at h3
      exact absurd rfl h3
theorem full_fin : ∀ n : Fin 7, listTo (2 ^ n.val - 1) 6 = (List.range n.val).map fun i : Nat => (i : Int) := by decide +kernel
theorem full_list {n : Nat} (hn : n ≤ 6) : listTo (2 ^ n - 1) 6 = (List.range n).map fun i : Nat => (i : Int) := full_fin ⟨n, by omega⟩
theorem full_just {t : Tri} (hn : t.ts.length ≤ 6) : justT t (2 ^ t.ts.length - 1) = t := by
  unfold justT
  rw [full_list hn, List.map_map]
  have e : (List.range t.ts.length).map ((fun i : Int => tstAt t.ts i.toNat) ∘ fun i : Nat => (i : Int)) = t.ts := by
    apply List.ext_getElem?
    intro k
    rw [List.getElem?_map]
    by_cases hk : k < t.ts.length
    · rw [List.getElem?_range hk, List.getElem?_eq_getElem hk]
      show some (tstAt t.ts ((k : Int).toNat)) = _
      have : ((k : Int)).toNat = k := by omega
      rw [this]
      unfold tstAt
      rw [List.getElem?_eq_getElem hk]
      rfl
    · rw [List.getElem?_eq_none (by simp; omega), List.getElem?_eq_none (by omega)]
      rfl
  rw [e]
theorem full_lt (n : Nat) : 2 ^ n - 1 < 2 ^ n := by have := Nat.two_pow_pos n; omega
theorem mem_dec {t : Tri} {sz mo : Int} {j s : Nat} : s ∈ decL t sz mo j ↔ s < 2 ^ t.ts.length ∧ (listTo s 6).length = j ∧ certJ t sz mo s ≠ 3 := by
  unfold decL decTo decB
  rw [List.mem_filter, List.mem_range, Bool.and_eq_true, decide_eq_true_eq, Bool.not_eq_true', decide_eq_false_iff_not]
/-- The least count that has any. -/
theorem smTo_first {t : Tri} {sz mo : Int} : ∀ k, smTo t sz mo k ≠ [] → ∃ j, j < k ∧ smTo t sz mo k = decL t sz mo j ∧ ∀ i, i < j → decL t sz mo i = []
  | 0, h => absurd rfl h
  | k + 1, h => by
    by_cases h0 : smTo t sz mo k = []
    · have h1 := smTo_none h0
      refine ⟨k, by omega, h1, ?_⟩
      have key : ∀ k, smTo t sz mo k = [] → ∀ i, i < k → decL t sz mo i = [] := by
        intro k
        induction k with
        | zero => exact fun _ i hi => by omega
        | succ k ih =>
          intro hk i hi
          by_cases h2 : smTo t sz mo k = []
          · by_cases e : i = k
            · subst e; rw [← smTo_none h2]; exact hk
            · exact ih h2 i (by omega)
          · have := smTo_some h2 1
            rw [this] at hk
            exact absurd hk h2
      exact key k h0
    · have h1 := smTo_some h0 1
      obtain ⟨j, h2, h3, h4⟩ := smTo_first k h0
      exact ⟨j, by omega, h1.trans h3, h4⟩
/-- No fewer tests decide than Fewest tells. -/
theorem few_least {t : Tri} {sz mo : Int} {s0 : Nat} {rest : List Nat} (h : smL t sz mo = s0 :: rest) {s : Nat} (hs : s < 2 ^ t.ts.length) (h3 : certJ t sz mo s ≠ 3) : (listTo s0 6).length ≤ (listTo s 6).length := by
  obtain ⟨j, _, h1, h2⟩ := smTo_first (t := t) (sz := sz) (mo := mo) (t.ts.length + 1) (by unfold smL at h; rw [h]; simp)
  unfold smL at h
  rw [h1] at h
  have hm : s0 ∈ decL t sz mo j := by rw [h]; exact List.mem_cons_self ..
  have hj := (mem_dec.1 hm).2.1
  by_cases hc : (listTo s 6).length < j
  · have := h2 _ hc
    have hm2 : s ∈ decL t sz mo (listTo s 6).length := mem_dec.2 ⟨hs, rfl, h3⟩
    rw [this] at hm2
    cases hm2
  · omega
/-- Some tests decide just if all do. -/
theorem sm_iff {t : Tri} (hg : 0 ≤ t.gain ∧ t.gain ≤ 50) (hk : 0 ≤ t.d.skew ∧ t.d.skew ≤ 20) (hn6 : t.ts.length ≤ 6) (hn : truthsL t ≠ []) {sz mo : Int} (hz : 0 ≤ sz ∧ sz ≤ 9000) :
    smL t sz mo ≠ [] ↔ cerV (lowL (fun x => errV x sz) (truthsL t)) (highL (fun x => errV x sz) (truthsL t)) mo ≠ 3 := by
  constructor
  · intro h
    cases hs : smL t sz mo with
    | nil => exact absurd hs h
    | cons s0 rest =>
      obtain ⟨j, hj⟩ := smTo_mem (t := t) (sz := sz) (mo := mo) (k := t.ts.length + 1) (s := s0) (by show s0 ∈ smL t sz mo; rw [hs]; exact List.mem_cons_self ..)
      obtain ⟨h1, _, h3⟩ := mem_dec.1 hj
      rw [← cert_all hg hk hn hz h1 h3]
      exact h3
  · intro h
    have hf : certJ t sz mo (2 ^ t.ts.length - 1) ≠ 3 := by
      unfold certJ
      rw [full_just hn6]
      exact h
    have hl : (listTo (2 ^ t.ts.length - 1) 6).length = t.ts.length := by rw [full_list hn6]; simp
    have hm : (2 ^ t.ts.length - 1) ∈ decL t sz mo t.ts.length := mem_dec.2 ⟨full_lt _, hl, hf⟩
    intro h0
    unfold smL at h0
    by_cases h1 : smTo t sz mo t.ts.length = []
    · rw [smTo_none h1] at h0
      rw [h0] at hm
      cases hm
    · have := smTo_some h1 1
      rw [this] at h0
      exact h1 h0
theorem nd_fin : ∀ (a b : Fin 64), (listTo (a.val &&& b.val) 6).length ≤ (listTo a.val 6).length ∧ ∀ i ∈ listTo (a.val &&& b.val) 6, i ∈ listTo a.val 6 := by decide +kernel
theorem bits_ex : ∀ b0 b1 b2 b3 b4 b5 : Bool, ∃ s : Fin 64, ∀ k : Fin 6, decide (s.val / 2 ^ k.val % 2 = 1) = [b0, b1, b2, b3, b4, b5].getD k.val false := by decide +kernel
theorem lt_fin : ∀ (s : Fin 64) (n : Fin 7), (∀ k : Fin 6, n.val ≤ k.val → s.val / 2 ^ k.val % 2 ≠ 1) → s.val < 2 ^ n.val := by decide +kernel
theorem listTo_asc (s : Nat) : (listTo s 6).Pairwise fun x y => x < y := by
  unfold listTo
  rw [List.pairwise_map]
  exact (List.pairwise_lt_range.filter _).imp fun h => by omega
theorem mem_listTo {s : Nat} {i : Int} : i ∈ listTo s 6 ↔ ∃ k : Nat, k < 6 ∧ s / 2 ^ k % 2 = 1 ∧ i = (k : Int) := by
  unfold listTo
  rw [List.mem_map]
  constructor
  · rintro ⟨k, hk, rfl⟩
    have h := List.mem_filter.1 hk
    exact ⟨k, List.mem_range.1 h.1, of_decide_eq_true h.2, rfl⟩
  · rintro ⟨k, h1, h2, rfl⟩
    exact ⟨k, List.mem_filter.2 ⟨List.mem_range.2 h1, decide_eq_true h2⟩, rfl⟩
/-- Ascending numbers of tests are a set. -/
theorem list_set {l : List Int} {n : Nat} (hn : n ≤ 6) (ha : l.Pairwise fun x y => x < y) (hl : ∀ i ∈ l, 0 ≤ i ∧ i < (n : Int)) : ∃ s, s < 2 ^ n ∧ listTo s 6 = l := by
  obtain ⟨s, hs⟩ := bits_ex (decide ((0 : Int) ∈ l)) (decide ((1 : Int) ∈ l)) (decide ((2 : Int) ∈ l)) (decide ((3 : Int) ∈ l)) (decide ((4 : Int) ∈ l)) (decide ((5 : Int) ∈ l))
  have hb : ∀ k : Nat, k < 6 → (s.val / 2 ^ k % 2 = 1 ↔ (k : Int) ∈ l) := fun k hk => by
    have h := hs ⟨k, hk⟩
    rw [Bool.eq_iff_iff, decide_eq_true_eq] at h
    rw [show s.val / 2 ^ k % 2 = 1 ↔ _ from h]
    have : k = 0 ∨ k = 1 ∨ k = 2 ∨ k = 3 ∨ k = 4 ∨ k = 5 := by omega
    rcases this with rfl | rfl | rfl | rfl | rfl | rfl <;> simp
  refine ⟨s.val, lt_fin s ⟨n, by omega⟩ fun k hk h => ?_, asc_ext _ _ (listTo_asc _) ha fun i => ?_⟩
  · have := (hl _ ((hb k.val k.isLt).1 h)).2
    have hk' : n ≤ k.val := hk
    omega
  · rw [mem_listTo]
    constructor
    · rintro ⟨k, h1, h2, rfl⟩
      exact (hb k h1).1 h2
    · intro hi
      have h := hl i hi
      refine ⟨i.toNat, by omega, (hb _ (by omega)).2 ?_, by omega⟩
      rw [show ((i.toNat : Nat) : Int) = i by omega]
      exact hi
theorem areasTo_iff {ts : List Tst} : ∀ n, areasTo ts n = true ↔ ∀ k, k < n → inB (tstAt ts k).1 0 9000 = true
  | 0 => by simp [areasTo]
  | n + 1 => by
    show (areasTo ts n && inB (tstAt ts n).1 0 9000) = true ↔ _
    rw [Bool.and_eq_true, areasTo_iff n]
    constructor
    · rintro ⟨h1, h2⟩ k hk
      by_cases e : k = n
      · subst e; exact h2
      · exact h1 k (by omega)
    · exact fun h => ⟨fun k hk => h k (by omega), h n (by omega)⟩
theorem walksTo_iff {t : Tri} : ∀ n, walksTo t n = 0 ↔ ∀ k, k < n → Wh.chkE (whl t (tstAt t.ts k).2) = 0
  | 0 => by simp [walksTo]
  | n + 1 => by
    have e : walksTo t (n + 1) = if walksTo t n = 0 then Wh.chkE (whl t (tstAt t.ts n).2) else walksTo t n := rfl
    rw [e]
    by_cases h0 : walksTo t n = 0
    · rw [if_pos h0]
      have h1 := (walksTo_iff n).1 h0
      constructor
      · intro h k hk
        by_cases e : k = n
        · subst e; exact h
        · exact h1 k (by omega)
      · exact fun h => h n (by omega)
    · rw [if_neg h0]
      constructor
      · exact fun h => absurd h h0
      · exact fun h => absurd ((walksTo_iff n).2 fun k hk => h k (by omega)) h0
/-- Some of a valid trial's tests are a valid trial. -/
theorem just_chk {t : Tri} (h : chkV t = 0) {s : Nat} (hs : s < 2 ^ t.ts.length) : chkV (justT t s) = 0 := by
  obtain ⟨h1, h2, h3⟩ := chk_parts h
  unfold headB at h1
  rw [Bool.and_eq_true, Bool.and_eq_true, areasTo_iff] at h1
  have hlen : (justT t s).ts.length = (listTo s 6).length := List.length_map _
  have each : ∀ k, k < (justT t s).ts.length → ∃ j, j < t.ts.length ∧ tstAt (justT t s).ts k = tstAt t.ts j := fun k hk => by
    obtain ⟨i, hi⟩ := listTo_get (s := s) (m := 6) (k := k) (by omega)
    have hm := List.mem_of_getElem? hi
    have h4 := listTo_lt hs _ hm
    refine ⟨i, by omega, ?_⟩
    unfold justT tstAt
    dsimp only
    rw [List.getElem?_map, hi]
    rfl
  have e1 : headB (justT t s) = true := by
    unfold headB
    rw [Bool.and_eq_true, Bool.and_eq_true, areasTo_iff]
    refine ⟨⟨h1.1.1, ?_⟩, fun k hk => ?_⟩
    · rw [decide_eq_true_eq, hlen]
      exact listTo_len s 6
    · obtain ⟨j, hj, e⟩ := each k hk
      rw [e]
      exact h1.2 j hj
  have e2 : walksTo (justT t s) (justT t s).ts.length = 0 := (walksTo_iff _).2 fun k hk => by
    obtain ⟨j, hj, e⟩ := each k hk
    rw [e]
    exact (walksTo_iff _).1 h2 j hj
  unfold chkV
  rw [if_pos e1, if_pos e2]
  exact h3
/-- What Certify tells of some of the tests. -/
theorem just_cert {t : Tri} {sz mo : Int} (h0 : opE t true = 0) {s : Nat} (hs : s < 2 ^ t.ts.length) : opE (justT t s) true = 0 ∧ certV (justT t s) sz mo 0 = certJ t sz mo s := by
  obtain ⟨h1, _, h2⟩ := op_ok h0
  obtain ⟨hg, hk, _⟩ := chk_ok h1
  have hne : truthsL (justT t s) ≠ [] := fun h => by
    cases hL : truthsL t with
    | nil => exact h2 hL
    | cons x l =>
      have := truths_sub hg hk hs x (by rw [hL]; exact List.mem_cons_self ..)
      rw [h] at this
      cases this
  constructor
  · unfold opE
    rw [if_pos (just_chk h1 hs), if_pos rfl, if_neg hne]
  · unfold certV certJ
    rw [if_pos rfl]
end Ti
end Go.Proofs.YtkmacpkjobdffaaGreat
