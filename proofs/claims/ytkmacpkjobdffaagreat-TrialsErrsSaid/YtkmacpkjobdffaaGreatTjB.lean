/- Trials, plain: truths by the truths of the wheels; the law's own example. -/
import Derived.Test.YtkmacpkjobdffaaGreatTiZ
import Derived.Test.YtkmacpkjobdffaaGreatTiW
namespace Go.Proofs.YtkmacpkjobdffaaGreat
open Go.RowKit Go.Maps
namespace Ti
theorem smTo_mem {t : Tri} {sz mo : Int} : ∀ {k s : Nat}, s ∈ smTo t sz mo k → ∃ j, s ∈ decL t sz mo j
  | 0, s, h => by cases h
  | k + 1, s, h => by
    unfold smTo at h
    by_cases h0 : smTo t sz mo k = []
    · rw [if_pos h0] at h; exact ⟨k, h⟩
    · rw [if_neg h0] at h; exact smTo_mem h
theorem smL_lt {t : Tri} {sz mo : Int} {s : Nat} (h : s ∈ smL t sz mo) : s < 2 ^ t.ts.length := by
  obtain ⟨j, hj⟩ := smTo_mem h
  unfold decL decTo at hj
  exact List.mem_range.1 (List.mem_filter.1 hj).1
theorem sm_head {t : Tri} {sz mo : Int} (h : smE t sz mo (opE t (classB sz mo)) = 0) : ∃ s0 rest, smR t sz mo (opE t (classB sz mo)) = s0 :: rest ∧ s0 < 64 := by
  unfold smE at h
  by_cases h0 : opE t (classB sz mo) = 0
  · rw [if_pos h0] at h
    by_cases h1 : smL t sz mo = []
    · rw [if_pos h1] at h; omega
    · unfold smR
      rw [if_pos h0]
      obtain ⟨h2, _⟩ := op_ok h0
      obtain ⟨_, _, h3, _⟩ := chk_ok h2
      cases hs : smL t sz mo with
      | nil => exact absurd hs h1
      | cons s0 rest => exact ⟨s0, rest, rfl, Nat.lt_of_lt_of_le (smL_lt (by rw [hs]; exact List.mem_cons_self ..)) (pow_le6 h3)⟩
  · rw [if_neg h0] at h; exact absurd h h0
/-- What Fewest tells, of the sets and the error. -/
def fewR (L : List Nat) : Int := match L with | [] => 0 | s0 :: _ => ((listTo s0 6).length : Int)
def fewV (t : Tri) (sz mo : Int) : Int := if smE t sz mo (opE t (classB sz mo)) = 0 then fewR (smR t sz mo (opE t (classB sz mo))) else 0
end Ti
set_option maxRecDepth 100000 in
set_option maxHeartbeats 8000000 in
theorem Fewest_any (t : Ti.Tri) (sz mo : Int) (A : Option Addr) (c : Nat) (w : World) (hl : t.ts.length ≤ 1000000000) (hg : Tsts w w.heap.size A t.ts) :
    Calls Tryz.prog 29 #[.agg (tiV t A c), .agg #[.int .i64 sz, .int .i64 mo]] w (TwoPost (Ti.fewV t sz mo) (Ti.smE t sz mo (Ti.opE t (Ti.classB sz mo))) w) := by
  have HSM : Hid (∀ W, Below w.heap.size w W → Calls Tryz.prog 73 #[.agg (tiV t A c), .agg #[.int .i64 sz, .int .i64 mo]] W (SmPost (Ti.smR t sz mo (Ti.opE t (Ti.classB sz mo))) (Ti.smE t sz mo (Ti.opE t (Ti.classB sz mo))) W)) := fun W hW => smallest_any t sz mo A c W hl ((hg.keep hW).wider hW.size)
  have HSK : Hid (Ti.smE t sz mo (Ti.opE t (Ti.classB sz mo)) = 0 → ∃ s0 rest, Ti.smR t sz mo (Ti.opE t (Ti.classB sz mo)) = s0 :: rest ∧ s0 < 64) := Ti.sm_head
  have HCN : Hid (∀ s : Nat, s < 64 → ∀ W, Calls Tryz.prog 74 #[.int .u64 s] W fun e w' => e = .returned (.int .i64 ((Ti.listTo s 6).length : Int)) ∧ Below W.heap.size W w') := fun s hs W => count_any s hs W
  have HFV : Hid (Ti.fewV t sz mo = if Ti.smE t sz mo (Ti.opE t (Ti.classB sz mo)) = 0 then Ti.fewR (Ti.smR t sz mo (Ti.opE t (Ti.classB sz mo))) else 0) := rfl
  clear hg
  unfold SmPost at HSM
  unfold TwoPost
  generalize Ti.fewV t sz mo = FW at *
  generalize Ti.smE t sz mo (Ti.opE t (Ti.classB sz mo)) = SE at *
  generalize Ti.smR t sz mo (Ti.opE t (Ti.classB sz mo)) = SR at *
  unfold tiV at *
  obtain ⟨d, gain, ts⟩ := t
  obtain ⟨full, read, slip, skew, circ, glo, ghi, wrn, dws⟩ := d
  dsimp only at *
  go_enter Tryz.func29, Tryz.ntmps29
  go_wp2_with fail
  have hB1 : Below w.heap.size w ((w.alloc (.cells #[.int .i64 full, .int .i64 read, .int .i64 slip, .int .i64 skew, .int .i64 circ, .int .i64 glo, .int .i64 ghi, .int .i64 wrn, .int .i64 gain, .slice A ts.length c] 28)).alloc (.cells #[.int .i64 sz, .int .i64 mo] 45)) := by (repeat' (first | (with_reducible exact Below.refl _ _) | (with_reducible assumption) | (with_reducible refine Below.alloc ?_ ?_ _) | (with_reducible refine Below.drew ?_) | (with_reducible refine Below.setCell ?_ ?_ _) | go_size | (exact (by simp)) | omega))
  generalize World.alloc (World.alloc w _) _ = w1 at *
  refine (HSM.out _ hB1).mono ?_
  rintro e w2 ⟨v, rfl, hv, hb2⟩
  have hB2 := hB1.trans (hb2.mono hB1.size)
  obtain ⟨A2, c2, rfl⟩ := owni_form hv.out
  clear hb2 hB1 HSM
  by_cases h0 : SE = 0
  · have hne : (SE != 0) = false := by simp [h0]
    obtain ⟨s0, rest, rfl, h64⟩ := HSK.out h0
    have hlen : (s0 :: rest).length = rest.length + 1 := rfl
    rcases hv.out.2 with ⟨e, _⟩ | ⟨g, cap, cur, e, a2, a3, a4⟩
    · injection e with _ e; simp at e
    have eA : A2 = some ⟨g, 0, none⟩ := by injection e
    subst eA
    have hc0 : w2.cell? ⟨g, 0, none⟩ = some (.int .u64 (s0 : Int)) := hv.out.cells (g := g) rfl 0 _ rfl
    have hli : (0 : Int) < ((s0 :: rest).length : Int) := by rw [hlen]; omega
    have hli2 : decide ((0 : Int) < ((s0 :: rest).length : Int)) = true := decide_eq_true hli
    clear e a3 a4
    go_wp2_with fail
    refine (HCN.out s0 h64 _).mono ?_
    rintro e w3 ⟨rfl, hb3⟩
    go_wp2_with fail
    go_returns
    refine ⟨?_, hB2.trans (hb3.mono hB2.size)⟩
    rw [HFV.out, if_pos h0, h0]
    rfl
  · have hne : (SE != 0) = true := by simpa using h0
    go_wp2_with fail
    go_returns
    exact ⟨by rw [HFV.out, if_neg h0]; rfl, hB2⟩
end Go.Proofs.YtkmacpkjobdffaaGreat
namespace Go.Proofs.YtkmacpkjobdffaaGreat
open Go.RowKit
namespace Ti
theorem mem_cases {t : Tri} (hg : 0 ≤ t.gain ∧ t.gain ≤ 50) (hk : 0 ≤ t.d.skew ∧ t.d.skew ≤ 20) {x : GkS} : x ∈ casesL t ↔ (-t.gain ≤ x.1.1 ∧ x.1.1 ≤ t.gain) ∧ (-t.d.skew ≤ x.1.2 ∧ x.1.2 ≤ t.d.skew) := by
  unfold casesL casesTo rowTo
  rw [List.mem_flatMap]
  constructor
  · rintro ⟨i, hi, hm⟩
    rw [List.mem_map] at hm
    obtain ⟨j, hj, rfl⟩ := hm
    rw [List.mem_range] at hi hj
    unfold nG at hi
    unfold nS at hj
    rw [gkOf_val (by unfold gsm; dsimp only; omega)]
    dsimp only
    omega
  · rintro ⟨h1, h2⟩
    refine ⟨(x.1.1 + t.gain).toNat, List.mem_range.2 (by unfold nG; omega), List.mem_map.2 ⟨(x.1.2 + t.d.skew).toNat, List.mem_range.2 (by unfold nS; omega), ?_⟩⟩
    have e : ((-t.gain + ((x.1.1 + t.gain).toNat : Int), -t.d.skew + ((x.1.2 + t.d.skew).toNat : Int)) : Gk) = x.1 := by
      apply Prod.ext
      · show -t.gain + ((x.1.1 + t.gain).toNat : Int) = x.1.1; omega
      · show -t.d.skew + ((x.1.2 + t.d.skew).toNat : Int) = x.1.2; omega
    rw [e]
    exact Subtype.ext (gkOf_val x.2)
/-- Whether a wheel has a truth with a skew. -/
def skewB (d : Wh.Desk) (s : Int) : Bool := decide (Wh.spE d = 0) && (Wh.truthsL d).any fun f => decide (f.1.2 = s)
theorem mem_skews (d : Wh.Desk) (s : Int) : decide (s ∈ Wh.skewsV d) = skewB d s := by
  rw [skews_eq]
  unfold skF skewB
  by_cases h : Wh.spE d = 0
  · rw [if_pos h, decide_eq_true h, Bool.true_and, Bool.eq_iff_iff, decide_eq_true_eq, List.mem_filter, List.any_eq_true]
    constructor
    · rintro ⟨_, h2⟩
      rw [decide_eq_true_eq] at h2
      obtain ⟨f, hf, e⟩ := h2
      exact ⟨f, hf, decide_eq_true e⟩
    · rintro ⟨f, hf, e⟩
      rw [decide_eq_true_eq] at e
      subst e
      refine ⟨?_, decide_eq_true ⟨f, hf, rfl⟩⟩
      have := f.2
      unfold Wh.tsm at this
      rw [List.mem_map]
      exact ⟨(f.1.2 + 20).toNat, List.mem_range.2 (by omega), by omega⟩
  · rw [if_neg h, decide_eq_false h]
    simp
def fastB (t : Tri) (x : Gk) (k : Nat) : Bool := skewB (dsk t (seenV x.1 (tstAt t.ts k).1) (tstAt t.ts k).2) x.2
def fastTo (t : Tri) (x : Gk) (n : Nat) : Bool := (List.range n).all fun k => fastB t x k
def fastL (t : Tri) : List GkS := (casesL t).filter fun x => fastTo t x.1 t.ts.length
theorem alB_fast {t : Tri} (hg : 0 ≤ t.gain) {x : Gk} (h1 : -t.gain ≤ x.1) (h2 : x.1 ≤ t.gain) (k : Nat) : alB t k x = fastB t x k := by
  unfold alB fastB
  rw [← mem_skews]
  exact decide_eq_decide.2 (mem_puts hg h1 h2)
theorem alTo_fast {t : Tri} (hg : 0 ≤ t.gain) {x : Gk} (h1 : -t.gain ≤ x.1) (h2 : x.1 ≤ t.gain) : ∀ n, alTo t x n = fastTo t x n
  | 0 => rfl
  | n + 1 => by
    show (alTo t x n && alB t n x) = fastTo t x (n + 1)
    rw [alTo_fast hg h1 h2 n, alB_fast hg h1 h2 n]
    unfold fastTo
    rw [List.range_succ, List.all_append]
    simp
theorem truths_fast {t : Tri} (hg : 0 ≤ t.gain ∧ t.gain ≤ 50) (hk : 0 ≤ t.d.skew ∧ t.d.skew ≤ 20) : truthsL t = fastL t := by
  unfold truthsL fastL
  refine List.filter_congr fun x hx => ?_
  have := (mem_cases hg hk).1 hx
  exact alTo_fast hg.1 this.1.1 this.1.2 _
/-- The law's own example. -/
def exT : Tri := ⟨⟨100, 0, 0, 2, 0, 40, 60, 0, []⟩, 20, [(1000, [(1, 1, 0, 10, 12)]), (1000, [(1, -1, 0, 0, 4)]), (2000, [(-1, 1, 0, 50, 43)])]⟩
theorem ex_chk : chkV exT = 0 := by decide +kernel
theorem ex_g : 0 ≤ exT.gain ∧ exT.gain ≤ 50 := by decide
theorem ex_k : 0 ≤ exT.d.skew ∧ exT.d.skew ≤ 20 := by decide
theorem ex_fast : (fastL exT).map (·.1) = [(3, -1)] := by decide +kernel
theorem ex_truths : ∃ h, truthsL exT = [⟨(3, -1), h⟩] := by
  rw [truths_fast ex_g ex_k]
  have h := ex_fast
  cases hL : fastL exT with
  | nil => rw [hL] at h; cases h
  | cons x l =>
    rw [hL, List.map_cons] at h
    injection h with h1 h2
    obtain ⟨v, hv⟩ := x
    dsimp only at h1
    subst h1
    rw [List.map_eq_nil_iff] at h2
    subst h2
    exact ⟨hv, rfl⟩
theorem ex_op (b : Bool) (hb : b = true) : opE exT b = 0 := by
  obtain ⟨h, e⟩ := ex_truths
  unfold opE
  rw [if_pos ex_chk, if_pos hb, e, if_neg (by simp)]
theorem ex_class : classB 1000 4 = true := by decide
theorem ex_cert : certV exT 1000 4 (opE exT (classB 1000 4)) = 1 := by
  unfold certV
  obtain ⟨h, e⟩ := ex_truths
  rw [ex_op _ ex_class, if_pos rfl, e]
  rfl
theorem ex_gains : allT (fun x => x.1) (truthsL exT) = [3] := by
  rw [gains_eq, truths_fast ex_g ex_k]
  decide +kernel
theorem real_one : realTo [3] 2006 9001 = [2000] := by decide +kernel
theorem ex_real : realE 0 exT 2006 = [2000] := by
  unfold realE allE
  rw [if_pos rfl, ex_gains]
  exact real_one
def certF (t : Tri) (sz mo : Int) (s : Nat) : Int := cerV (lowL (fun x => errV x sz) (fastL (justT t s))) (highL (fun x => errV x sz) (fastL (justT t s))) mo
theorem certJ_fast {t : Tri} (hg : 0 ≤ t.gain ∧ t.gain ≤ 50) (hk : 0 ≤ t.d.skew ∧ t.d.skew ≤ 20) (sz mo : Int) (s : Nat) : certJ t sz mo s = certF t sz mo s := by
  unfold certJ certF
  rw [truths_fast (t := justT t s) hg hk]
def decF (t : Tri) (sz mo : Int) (count : Nat) : List Nat := (List.range (2 ^ t.ts.length)).filter fun s => decide ((listTo s 6).length = count) && !decide (certF t sz mo s = 3)
theorem dec_fast {t : Tri} (hg : 0 ≤ t.gain ∧ t.gain ≤ 50) (hk : 0 ≤ t.d.skew ∧ t.d.skew ≤ 20) (sz mo : Int) (count : Nat) : decL t sz mo count = decF t sz mo count := by
  unfold decL decTo decF decB
  simp only [certJ_fast hg hk]
theorem ex_dec0 : decL exT 1000 4 0 = [] := by rw [dec_fast ex_g ex_k]; decide +kernel
theorem ex_dec1 : decL exT 1000 4 1 = [] := by rw [dec_fast ex_g ex_k]; decide +kernel
theorem ex_dec2 : decL exT 1000 4 2 = [3, 5, 6] := by rw [dec_fast ex_g ex_k]; decide +kernel
theorem ex_sm : smL exT 1000 4 = [3, 5, 6] := by
  have h0 : smTo exT 1000 4 0 = [] := rfl
  have h1 : smTo exT 1000 4 1 = [] := (smTo_none h0).trans ex_dec0
  have h2 : smTo exT 1000 4 2 = [] := (smTo_none h1).trans ex_dec1
  rw [smL_found (k := 2) (by decide) h2 (by rw [ex_dec2]; simp), ex_dec2]
theorem ex_smE : smE exT 1000 4 (opE exT (classB 1000 4)) = 0 := by
  unfold smE
  rw [ex_op _ ex_class, if_pos rfl, ex_sm, if_neg (by simp)]
theorem ex_few : fewV exT 1000 4 = 2 := by
  unfold fewV
  rw [if_pos ex_smE]
  unfold smR
  rw [ex_op _ ex_class, if_pos rfl, ex_sm]
  decide +kernel
end Ti
end Go.Proofs.YtkmacpkjobdffaaGreat
