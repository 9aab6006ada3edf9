/- Trials: a copy of a trial, by the reference. -/
import Derived.Test.YtkmacpkjobdffaaGreatTpA
namespace Go.Proofs.YtkmacpkjobdffaaGreat
open Go.RowKit
namespace Ti
theorem nodup_sub_len {α : Type} [DecidableEq α] : ∀ (xs ys : List α), xs.Nodup → (∀ x ∈ xs, x ∈ ys) → xs.length ≤ ys.length
  | [], _, _, _ => Nat.zero_le _
  | x :: xs, ys, hn, hs => by
    rw [List.nodup_cons] at hn
    have hx : x ∈ ys := hs x (List.mem_cons_self ..)
    have h1 := nodup_sub_len xs (ys.erase x) hn.2 fun z hz => (List.mem_erase_of_ne (fun e => hn.1 (by rw [← e]; exact hz))).2 (hs z (List.mem_cons_of_mem _ hz))
    have h2 := List.length_erase_of_mem hx
    have h3 : 0 < ys.length := List.length_pos_of_mem hx
    rw [List.length_cons]
    omega
theorem gkOf_inj {f g : Gk} (hf : gsm f) (hg : gsm g) (h : gkOf f = gkOf g) : f = g := by
  have := congrArg (·.1) h
  rwa [gkOf_val hf, gkOf_val hg] at this
theorem cases_nodup {t : Tri} (hg : 0 ≤ t.gain ∧ t.gain ≤ 50) (hk : 0 ≤ t.d.skew ∧ t.d.skew ≤ 20) : (casesL t).Nodup := by
  have hr : ∀ n, (List.range n).Pairwise (fun a b => a < b) := fun n => List.pairwise_lt_range
  have sm : ∀ i j : Nat, i < nG t → j < nS t → gsm (-t.gain + (i : Int), -t.d.skew + (j : Int)) := fun i j hi hj => by
    unfold nG at hi
    unfold nS at hj
    unfold gsm
    dsimp only
    omega
  unfold casesL casesTo List.Nodup
  rw [List.pairwise_flatMap]
  constructor
  · intro i hi
    have hi := List.mem_range.1 hi
    unfold rowTo
    rw [List.pairwise_map]
    refine List.Pairwise.imp_of_mem ?_ (hr _)
    intro a b ha hb hab e
    have ha := List.mem_range.1 ha
    have hb := List.mem_range.1 hb
    have := congrArg Prod.snd (gkOf_inj (sm i a hi ha) (sm i b hi hb) e)
    dsimp only at this
    omega
  · refine List.Pairwise.imp_of_mem ?_ (hr _)
    intro a b ha hb hab x hx y hy e
    have ha := List.mem_range.1 ha
    have hb := List.mem_range.1 hb
    unfold rowTo at hx hy
    obtain ⟨j, hj, rfl⟩ := List.mem_map.1 hx
    obtain ⟨k, hk, rfl⟩ := List.mem_map.1 hy
    have := congrArg Prod.fst (gkOf_inj (sm a j ha (List.mem_range.1 hj)) (sm b k hb (List.mem_range.1 hk)) e)
    dsimp only at this
    omega
theorem truths_nodup {t : Tri} (hg : 0 ≤ t.gain ∧ t.gain ≤ 50) (hk : 0 ≤ t.d.skew ∧ t.d.skew ≤ 20) : (truthsL t).Nodup := (cases_nodup hg hk).filter _
/-- A trial whose truths are all of another one has no more of them, and is told no wider. -/
theorem sub_facts {t o : Tri} (hg : 0 ≤ o.gain ∧ o.gain ≤ 50) (hk : 0 ≤ o.d.skew ∧ o.d.skew ≤ 20) (hsub : ∀ z ∈ truthsL o, z ∈ truthsL t) (hn : truthsL o ≠ []) :
    truthsL t ≠ [] ∧ (truthsL o).length ≤ (truthsL t).length ∧ ∀ sz, 0 ≤ sz ∧ sz ≤ 9000 → lowL (fun x => errV x sz) (truthsL t) ≤ lowL (fun x => errV x sz) (truthsL o) ∧ highL (fun x => errV x sz) (truthsL o) ≤ highL (fun x => errV x sz) (truthsL t) ∧ lowL (fun x => errV x sz) (truthsL o) ≤ highL (fun x => errV x sz) (truthsL o) := by
  have hne : truthsL t ≠ [] := fun h => by
    cases hL : truthsL o with
    | nil => exact hn hL
    | cons x l =>
      have := hsub x (by rw [hL]; exact List.mem_cons_self ..)
      rw [h] at this
      cases this
  refine ⟨hne, nodup_sub_len _ _ (truths_nodup hg hk) hsub, fun sz hz => ?_⟩
  have hb := err_bd hz
  obtain ⟨⟨a, ha, ea⟩, la⟩ := lowL_spec (fun x => errV x sz) (truthsL t) (fun x _ => by have := hb x; omega) hne
  obtain ⟨⟨b, hb', eb⟩, lb⟩ := lowL_spec (fun x => errV x sz) (truthsL o) (fun x _ => by have := hb x; omega) hn
  obtain ⟨⟨c, hc, ec⟩, lc⟩ := highL_spec (fun x => errV x sz) (truthsL t) (fun x _ => by have := hb x; omega) hne
  obtain ⟨⟨d, hd, ed⟩, ld⟩ := highL_spec (fun x => errV x sz) (truthsL o) (fun x _ => by have := hb x; omega) hn
  refine ⟨?_, ?_, ?_⟩
  · rw [eb]; exact la b (hsub b hb')
  · rw [ed]; exact lc d (hsub d hd)
  · rw [eb]; exact ld b hb'
def moreT (t : Tri) (x : Tst) : Tri := { t with ts := t.ts ++ [x] }
def widT (t : Tri) (g : Int) : Tri := { t with gain := t.gain + g }
theorem more_sub {t : Tri} {x : Tst} (hg : 0 ≤ t.gain ∧ t.gain ≤ 50) (hk : 0 ≤ t.d.skew ∧ t.d.skew ≤ 20) : ∀ z ∈ truthsL (moreT t x), z ∈ truthsL t := fun z hz => by
  have h := (mem_truths (t := moreT t x) hg hk).1 hz
  exact (mem_truths hg hk).2 ⟨h.1, fun y hy => h.2 y (List.mem_append_left _ hy)⟩
theorem wid_sub {t : Tri} {g : Int} (hg : 0 ≤ t.gain ∧ t.gain ≤ 50) (hk : 0 ≤ t.d.skew ∧ t.d.skew ≤ 20) (h0 : 0 ≤ g) (h1 : t.gain + g ≤ 50) : ∀ z ∈ truthsL t, z ∈ truthsL (widT t g) := fun z hz => by
  have h := (mem_truths hg hk).1 hz
  have hc := (mem_cases hg hk).1 h.1
  have hg' : 0 ≤ (widT t g).gain ∧ (widT t g).gain ≤ 50 := by show 0 ≤ t.gain + g ∧ t.gain + g ≤ 50; omega
  refine (mem_truths (t := widT t g) hg' hk).2 ⟨(mem_cases (t := widT t g) hg' hk).2 ⟨?_, hc.2⟩, h.2⟩
  show -(t.gain + g) ≤ z.1.1 ∧ z.1.1 ≤ t.gain + g
  omega
theorem cer_sub {lo hi lo' hi' mo : Int} (h1 : lo ≤ lo') (h2 : hi' ≤ hi) (h3 : lo' ≤ hi') (h : cerV lo hi mo ≠ 3) : cerV lo' hi' mo = cerV lo hi mo := by
  unfold cerV at *
  split at h
  · rename_i h4
    rw [if_pos h4, if_pos (by omega)]
  · rename_i h4
    rw [if_neg h4]
    split at h
    · rename_i h5
      rw [if_pos h5, if_neg (by omega), if_pos (by omega)]
    · exact absurd rfl h
theorem op_of {t : Tri} (h : chkV t = 0) : opE t true = if truthsL t = [] then 3 else 0 := by unfold opE; rw [if_pos h, if_pos rfl]
/-- One more test (of a trial that stays valid). -/
theorem more_facts {t : Tri} {x : Tst} {sz mo : Int} (hc : classB sz mo = true) (ht : chkV t = 0) (ho : chkV (moreT t x) = 0) (h0 : opE (moreT t x) true = 0) :
    opE t true = 0 ∧ manyE 0 (moreT t x) ≤ manyE 0 t ∧ lowE (fun x => errV x sz) 0 t ≤ lowE (fun x => errV x sz) 0 (moreT t x) ∧ highE (fun x => errV x sz) 0 (moreT t x) ≤ highE (fun x => errV x sz) 0 t ∧ (certV t sz mo 0 ≠ 3 → certV (moreT t x) sz mo 0 = certV t sz mo 0) := by
  obtain ⟨hg, hk, _⟩ := chk_ok ht
  have hz : 0 ≤ sz ∧ sz ≤ 9000 := by unfold classB at hc; rw [Bool.and_eq_true, inB_true] at hc; exact hc.1
  have hn : truthsL (moreT t x) ≠ [] := fun h => by rw [op_of ho, if_pos h] at h0; cases h0
  obtain ⟨a1, a2, a3⟩ := sub_facts (t := t) (o := moreT t x) hg hk (more_sub hg hk) hn
  obtain ⟨b1, b2, b3⟩ := a3 sz hz
  refine ⟨by rw [op_of ht, if_neg a1], ?_, ?_, ?_, fun h => ?_⟩
  · unfold manyE
    rw [if_pos rfl, if_pos rfl]
    omega
  · unfold lowE
    rw [if_pos rfl, if_pos rfl]
    exact b1
  · unfold highE
    rw [if_pos rfl, if_pos rfl]
    exact b2
  · unfold certV at *
    rw [if_pos rfl] at *
    rw [if_pos rfl] at *
    exact cer_sub b1 b2 b3 h
theorem gain_mem {L : List GkS} {s : Int} : s ∈ gainF L ↔ ∃ f ∈ L, f.1.1 = s := by
  unfold gainF
  rw [List.mem_filter, decide_eq_true_eq]
  constructor
  · exact fun h => h.2
  · rintro ⟨f, hf, e⟩
    refine ⟨?_, f, hf, e⟩
    have := f.2
    unfold gsm at this
    exact List.mem_map.2 ⟨(s + 50).toNat, List.mem_range.2 (by omega), by omega⟩
/-- A greater gain. -/
theorem wid_facts {t : Tri} {g : Int} (hg0 : 0 ≤ g) (ht : chkV t = 0) (hw : chkV (widT t g) = 0) (h0 : opE t true = 0) :
    opE (widT t g) true = 0 ∧ manyE 0 t ≤ manyE 0 (widT t g) ∧ ((∀ i ∈ allE (fun x => x.1) 0 t, i ∈ allE (fun x => x.1) 0 (widT t g)) ∧ (allE (fun x => x.1) 0 t).length ≤ (allE (fun x => x.1) 0 (widT t g)).length) ∧ ((∀ i ∈ allE (fun x => x.2) 0 t, i ∈ allE (fun x => x.2) 0 (widT t g)) ∧ (allE (fun x => x.2) 0 t).length ≤ (allE (fun x => x.2) 0 (widT t g)).length) ∧ (allE (fun x => x.1) 0 (widT t g)).length ≤ 200 ∧ (allE (fun x => x.2) 0 (widT t g)).length ≤ 200 := by
  obtain ⟨hg, hk, _⟩ := chk_ok ht
  obtain ⟨hg', _, _⟩ := chk_ok hw
  have hsub := wid_sub hg hk hg0 hg'.2
  have hn : truthsL t ≠ [] := fun h => by rw [op_of ht, if_pos h] at h0; cases h0
  obtain ⟨a1, a2, _⟩ := sub_facts (t := widT t g) (o := t) hg hk hsub hn
  have hmany : manyE 0 t ≤ manyE 0 (widT t g) := by
    unfold manyE
    rw [if_pos rfl, if_pos rfl]
    omega
  have asc1 : ∀ L : List GkS, (gainF L).Nodup := fun L => List.Pairwise.imp (fun h e => by omega) (asc101.filter _)
  have asc2 : ∀ L : List GkS, (skewF L).Nodup := fun L => List.Pairwise.imp (fun h e => by omega) (asc41.filter _)
  unfold allE
  simp only [if_pos, gains_eq, tskews_eq]
  have s1 : ∀ i ∈ gainF (truthsL t), i ∈ gainF (truthsL (widT t g)) := fun i hi => by
    obtain ⟨f, hf, e⟩ := gain_mem.1 hi
    exact gain_mem.2 ⟨f, hsub f hf, e⟩
  have s2 : ∀ i ∈ skewF (truthsL t), i ∈ skewF (truthsL (widT t g)) := fun i hi => by
    obtain ⟨f, hf, e⟩ := mem_skewF.1 hi
    exact mem_skewF.2 ⟨f, hsub f hf, e⟩
  refine ⟨by rw [op_of hw, if_neg a1], hmany, ⟨s1, nodup_sub_len _ _ (asc1 _) s1⟩, ⟨s2, nodup_sub_len _ _ (asc2 _) s2⟩, ?_, ?_⟩
  · unfold gainF
    exact Nat.le_trans (List.length_filter_le _ _) (by simp)
  · unfold skewF
    exact Nat.le_trans (List.length_filter_le _ _) (by simp)
/-- A trial whose tests are some of those of another one is valid. -/
theorem chk_sub {t o : Tri} (h : chkV t = 0) (hd : o.d = t.d) (hg : o.gain = t.gain) (h6 : o.ts.length ≤ 6) (hs : ∀ y ∈ o.ts, y ∈ t.ts) : chkV o = 0 := by
  obtain ⟨h1, h2, h3⟩ := chk_parts h
  unfold headB at h1
  rw [Bool.and_eq_true, Bool.and_eq_true, areasTo_iff] at h1
  obtain ⟨d, gain, ts⟩ := t
  obtain ⟨d', gain', ts'⟩ := o
  dsimp only at hd hg h6 hs
  subst hd hg
  have each : ∀ k, k < ts'.length → ∃ j, j < ts.length ∧ tstAt ts' k = tstAt ts j := fun k hk => by
    have e1 : ts'[k]? = some ts'[k] := List.getElem?_eq_getElem hk
    obtain ⟨j, hj, e2⟩ := List.getElem_of_mem (hs _ (List.getElem_mem hk))
    refine ⟨j, hj, ?_⟩
    unfold tstAt
    rw [e1, List.getElem?_eq_getElem hj, e2]
  have e1 : headB ⟨d', gain', ts'⟩ = true := by
    unfold headB
    rw [Bool.and_eq_true, Bool.and_eq_true, areasTo_iff]
    refine ⟨⟨h1.1.1, decide_eq_true h6⟩, fun k hk => ?_⟩
    obtain ⟨j, hj, e⟩ := each k hk
    rw [e]
    exact h1.2 j hj
  have e2 : walksTo ⟨d', gain', ts'⟩ ts'.length = 0 := (walksTo_iff _).2 fun k hk => by
    obtain ⟨j, hj, e⟩ := each k hk
    rw [e]
    exact (walksTo_iff _).1 h2 j hj
  unfold chkV
  rw [if_pos e1, if_pos e2]
  exact h3
theorem truths_same {t o : Tri} (hg : 0 ≤ t.gain ∧ t.gain ≤ 50) (hk : 0 ≤ t.d.skew ∧ t.d.skew ≤ 20) (hd : o.d = t.d) (hgo : o.gain = t.gain) (hs : ∀ y, y ∈ o.ts ↔ y ∈ t.ts) : truthsL o = truthsL t := by
  obtain ⟨d, gain, ts⟩ := t
  obtain ⟨d', gain', ts'⟩ := o
  dsimp only at hd hgo hs hg hk
  subst hd hgo
  have m1 := fun x => mem_truths (t := ⟨d', gain', ts⟩) (x := x) hg hk
  have m2 := fun x => mem_truths (t := ⟨d', gain', ts'⟩) (x := x) hg hk
  have ec : casesL ⟨d', gain', ts'⟩ = casesL ⟨d', gain', ts⟩ := rfl
  unfold truthsL at *
  rw [ec] at *
  refine List.filter_congr fun x hx => ?_
  have h1 := m1 x
  have h2 := m2 x
  rw [List.mem_filter] at h1 h2
  have h3 : (∀ y ∈ ts', tstB ⟨d', gain', ts'⟩ x.1 y = true) ↔ ∀ y ∈ ts, tstB ⟨d', gain', ts⟩ x.1 y = true := ⟨fun h y hy => h y ((hs y).2 hy), fun h y hy => h y ((hs y).1 hy)⟩
  have h4 : trB ⟨d', gain', ts'⟩ x = true ↔ trB ⟨d', gain', ts⟩ x = true := ⟨fun h => (h1.2 ⟨hx, h3.1 (h2.1 ⟨hx, h⟩).2⟩).2, fun h => (h2.2 ⟨hx, h3.2 (h1.1 ⟨hx, h⟩).2⟩).2⟩
  exact Bool.eq_iff_iff.2 h4
/-- The fewest tests of a trial decide another one with the same tests. -/
theorem few_le {t o : Tri} {sz mo : Int} (hz : 0 ≤ sz ∧ sz ≤ 9000) (h0 : opE t true = 0) (hco : chkV o = 0) (hd : o.d = t.d) (hgo : o.gain = t.gain) (hs : ∀ y, y ∈ o.ts ↔ y ∈ t.ts) (hne : smL t sz mo ≠ []) : smL o sz mo ≠ [] ∧ fewR (smL o sz mo) ≤ fewR (smL t sz mo) := by
  obtain ⟨h1, _, h2⟩ := op_ok h0
  obtain ⟨hg, hk, hn6, _⟩ := chk_ok h1
  obtain ⟨hg', hk', ho6, _⟩ := chk_ok hco
  have eT := truths_same hg hk hd hgo hs
  have hno : smL o sz mo ≠ [] := (sm_iff hg' hk' ho6 (by rw [eT]; exact h2) hz).2 (by rw [eT]; exact (sm_iff hg hk hn6 h2 hz).1 hne)
  refine ⟨hno, ?_⟩
  cases hL : smL t sz mo with
  | nil => exact absurd hL hne
  | cons s0 rest =>
    cases hO : smL o sz mo with
    | nil => exact absurd hO hno
    | cons p0 rest' =>
      show ((listTo p0 6).length : Int) ≤ ((listTo s0 6).length : Int)
      obtain ⟨j, hj⟩ := smTo_mem (t := t) (sz := sz) (mo := mo) (k := t.ts.length + 1) (s := s0) (by show s0 ∈ smL t sz mo; rw [hL]; exact List.mem_cons_self ..)
      obtain ⟨g1, _, g3⟩ := mem_dec.1 hj
      have hf : ∀ i ∈ listTo s0 6, ∃ q : Nat, q < o.ts.length ∧ tstAt o.ts q = tstAt t.ts i.toNat := fun i hi => by
        have hl := listTo_lt g1 i hi
        obtain ⟨k, _, _, e⟩ := mem_listTo.1 hi
        have hkl : i.toNat < t.ts.length := by omega
        have hm : tstAt t.ts i.toNat ∈ t.ts := by
          unfold tstAt
          rw [List.getElem?_eq_getElem hkl]
          exact List.getElem_mem hkl
        obtain ⟨q, hq, e2⟩ := List.getElem_of_mem ((hs _).2 hm)
        refine ⟨q, hq, ?_⟩
        rw [← e2]
        unfold tstAt
        rw [List.getElem?_eq_getElem hq]
        rfl
      have hF : ∃ F : Int → Nat, ∀ i ∈ listTo s0 6, F i < o.ts.length ∧ tstAt o.ts (F i) = tstAt t.ts i.toNat := by
        refine ⟨fun i => if h : i ∈ listTo s0 6 then (hf i h).choose else 0, fun i hi => ?_⟩
        dsimp only
        rw [dif_pos hi]
        exact (hf i hi).choose_spec
      obtain ⟨F, hF⟩ := hF
      obtain ⟨l, hl⟩ : ∃ l : List Int, l = ((List.range o.ts.length).map fun q : Nat => (q : Int)).filter (fun q => decide (q.toNat ∈ (listTo s0 6).map F)) := ⟨_, rfl⟩
      have hml : ∀ q : Int, q ∈ l ↔ (0 ≤ q ∧ q < (o.ts.length : Int)) ∧ ∃ i ∈ listTo s0 6, F i = q.toNat := fun q => by
        rw [hl, List.mem_filter, decide_eq_true_eq, List.mem_map, List.mem_map]
        constructor
        · rintro ⟨⟨a, ha, rfl⟩, h⟩
          have := List.mem_range.1 ha
          exact ⟨by omega, h⟩
        · rintro ⟨ha, h⟩
          exact ⟨⟨q.toNat, List.mem_range.2 (by omega), by omega⟩, h⟩
      have hasc : l.Pairwise fun x y => x < y := by
        rw [hl]
        refine List.Pairwise.filter _ ?_
        rw [List.pairwise_map]
        exact List.Pairwise.imp (fun h => by omega) List.pairwise_lt_range
      obtain ⟨s', hs', e'⟩ := list_set (l := l) (n := o.ts.length) ho6 hasc (fun q hq => ((hml q).1 hq).1)
      have hlen : l.length ≤ (listTo s0 6).length := by
        have h := nodup_sub_len (l.map (·.toNat)) ((listTo s0 6).map F) (by
          unfold List.Nodup
          rw [List.pairwise_map]
          refine List.Pairwise.imp_of_mem ?_ hasc
          intro a b ha hb hab e
          have h1 := ((hml a).1 ha).1
          have h2 := ((hml b).1 hb).1
          omega) (fun q hq => by
          obtain ⟨a, ha, rfl⟩ := List.mem_map.1 hq
          obtain ⟨i, hi, e⟩ := ((hml a).1 ha).2
          exact List.mem_map.2 ⟨i, hi, e⟩)
        simpa using h
      have hmem : ∀ y, y ∈ (justT o s').ts ↔ y ∈ (justT t s0).ts := fun y => by
        unfold justT
        rw [e']
        rw [List.mem_map, List.mem_map]
        constructor
        · rintro ⟨q, hq, rfl⟩
          obtain ⟨i, hi, e⟩ := ((hml q).1 hq).2
          exact ⟨i, hi, by rw [← e]; exact (hF i hi).2.symm⟩
        · rintro ⟨i, hi, rfl⟩
          have hF1 := hF i hi
          exact ⟨(F i : Int), (hml _).2 ⟨by omega, i, hi, by omega⟩, hF1.2⟩
      have eJ : truthsL (justT o s') = truthsL (justT t s0) := truths_same (t := justT t s0) (o := justT o s') hg hk hd hgo hmem
      have hc3 : certJ o sz mo s' ≠ 3 := by
        unfold certJ
        rw [eJ]
        exact g3
      have hle := few_least hO hs' hc3
      rw [e'] at hle
      omega
/-- Nothing that a trial tells depends on the order of its tests, or on tests that come twice. -/
theorem order_facts {t o : Tri} {sz mo : Int} (hc : classB sz mo = true) (ht : chkV t = 0) (hd : o.d = t.d) (hgo : o.gain = t.gain) (h6 : o.ts.length ≤ 6) (hs : ∀ y, y ∈ o.ts ↔ y ∈ t.ts) :
    truthsL o = truthsL t ∧ opE o true = opE t true ∧ smE o sz mo (opE o true) = smE t sz mo (opE t true) ∧ fewV o sz mo = fewV t sz mo := by
  obtain ⟨hg, hk, hn6, _⟩ := chk_ok ht
  have hz : 0 ≤ sz ∧ sz ≤ 9000 := by unfold classB at hc; rw [Bool.and_eq_true, inB_true] at hc; exact hc.1
  have ho : chkV o = 0 := chk_sub ht hd hgo h6 fun y hy => (hs y).1 hy
  have eT := truths_same hg hk hd hgo hs
  have eO : opE o true = opE t true := by rw [op_of ho, op_of ht, eT]
  obtain ⟨hg', hk', ho6, _⟩ := chk_ok ho
  have key : opE t true = 0 → smE o sz mo 0 = smE t sz mo 0 ∧ (smL t sz mo ≠ [] → fewR (smL o sz mo) = fewR (smL t sz mo)) := fun h0 => by
    have h2 := (op_ok h0).2.2
    have hii : smL o sz mo ≠ [] ↔ smL t sz mo ≠ [] := by
      rw [sm_iff hg' hk' ho6 (by rw [eT]; exact h2) hz, sm_iff hg hk hn6 h2 hz, eT]
    constructor
    · unfold smE
      rw [if_pos rfl, if_pos rfl]
      by_cases hn : smL t sz mo = []
      · rw [if_pos hn, if_pos]
        exact Classical.byContradiction fun h => hii.1 h hn
      · rw [if_neg hn, if_neg (hii.2 hn)]
    · intro hn
      have a := (few_le hz h0 ho hd hgo hs hn).2
      have b := (few_le (t := o) (o := t) hz (by rw [eO]; exact h0) ht hd.symm hgo.symm (fun y => (hs y).symm) (hii.2 hn)).2
      omega
  refine ⟨eT, eO, ?_, ?_⟩
  · rw [eO]
    by_cases h0 : opE t true = 0
    · rw [h0]; exact (key h0).1
    · unfold smE; rw [if_neg h0, if_neg h0]
  · unfold fewV
    rw [hc, eO]
    by_cases h0 : opE t true = 0
    · obtain ⟨k1, k2⟩ := key h0
      rw [h0, k1]
      by_cases hE : smE t sz mo 0 = 0
      · rw [if_pos hE, if_pos hE]
        unfold smR
        rw [if_pos rfl, if_pos rfl]
        refine k2 fun hn => ?_
        unfold smE at hE
        rw [if_pos rfl, if_pos hn] at hE
        cases hE
      · rw [if_neg hE, if_neg hE]
    · have e1 : smE o sz mo (opE t true) = opE t true := by unfold smE; rw [if_neg h0]
      have e2 : smE t sz mo (opE t true) = opE t true := by unfold smE; rw [if_neg h0]
      rw [e1, e2, if_neg h0, if_neg h0]
end Ti
end Go.Proofs.YtkmacpkjobdffaaGreat
namespace Go.Proofs.YtkmacpkjobdffaaGreat
open Go.RowKit Go.Maps
def flat5 (k : Wh.Wk) : List Value := [.int .i64 k.1, .int .i64 k.2.1, .int .i64 k.2.2.1, .int .i64 k.2.2.2.1, .int .i64 k.2.2.2.2]
theorem flat5_one (k : Wh.Wk) : ∀ u ∈ flat5 k, u.oneCell' = true := by
  intro u hu
  unfold flat5 at hu
  simp at hu
  rcases hu with h | h | h | h | h <;> subst h <;> rfl
theorem reads5 {w : World} {b B : Nat} {t : TypeId} {k : Wh.Wk} (h : BoxS w b t (flat5 k).toArray) (hb : b < B) : Reads w B 5 (some ⟨b, 0, none⟩) 1 (flat5 k) := by
  refine ⟨rfl, fun _ => ⟨_, rfl, hb, fun j u hu => ?_⟩⟩
  have := h.cell j (v := u) (by simpa using hu)
  have e : (Addr.add ⟨b, 0, none⟩ j) = ⟨b, j, none⟩ := by unfold Addr.add; split <;> simp_all
  rw [e]
  exact this
theorem walk_info : (Tryz.prog.info? 67).map (fun i => (i.zero, i.size, i.bytes)) = some (some (.agg #[.int .i64 0, .int .i64 0, .int .i64 0, .int .i64 0, .int .i64 0]), 5, 40) := by kernel_rfl
theorem info_parts5 {o : Option TypeInfo} {z : Option Value} {n b : Nat} (h : o.map (fun i => (i.zero, i.size, i.bytes)) = some (z, n, b)) : ∃ i, o = some i ∧ i.zero = z ∧ i.size = n ∧ i.bytes = b := by
  cases o with
  | none => cases h
  | some i => simp at h; exact ⟨i, rfl, h.1, h.2.1, h.2.2⟩
def flatW (ks : List Wh.Wk) : List Value := ks.flatMap flat5
theorem flatW_cons (k : Wh.Wk) (ks : List Wh.Wk) : flatW (k :: ks) = .int .i64 k.1 :: .int .i64 k.2.1 :: .int .i64 k.2.2.1 :: .int .i64 k.2.2.2.1 :: .int .i64 k.2.2.2.2 :: flatW ks := by simp [flatW, flat5]
theorem flatW_len (ks : List Wh.Wk) : (flatW ks).length = ks.length * 5 := by
  induction ks with
  | nil => rfl
  | cons k ks ih => rw [flatW_cons]; simp only [List.length_cons, ih]; omega
theorem flatW_append (a b : List Wh.Wk) : flatW (a ++ b) = flatW a ++ flatW b := List.flatMap_append ..
theorem flatW_get (ks : List Wh.Wk) : ∀ k, ((flatW ks)[k * 5]? = (ks[k]?).map (fun g => Value.int .i64 g.1) ∧ (flatW ks)[k * 5 + 1]? = (ks[k]?).map (fun g => Value.int .i64 g.2.1) ∧ (flatW ks)[k * 5 + 2]? = (ks[k]?).map (fun g => Value.int .i64 g.2.2.1)) ∧ (flatW ks)[k * 5 + 3]? = (ks[k]?).map (fun g => Value.int .i64 g.2.2.2.1) ∧ (flatW ks)[k * 5 + 4]? = (ks[k]?).map (fun g => Value.int .i64 g.2.2.2.2) := by
  induction ks with
  | nil => intro k; simp [flatW]
  | cons g ks ih =>
    intro k
    rw [flatW_cons]
    cases k with
    | zero => simp
    | succ k =>
      have h := ih k
      have e : (k + 1) * 5 = k * 5 + 5 := by omega
      rw [e]
      simpa using h
theorem flatW_one (ks : List Wh.Wk) : ∀ u ∈ flatW ks, u.oneCell' = true := by
  intro u hu
  unfold flatW at hu
  rw [List.mem_flatMap] at hu
  obtain ⟨k, _, hk⟩ := hu
  exact flat5_one k u hk
theorem Wks.reads {w : World} {B : Nat} {A : Option Addr} {cs : List Wh.Wk} (h : Wks w B A cs) : Reads w B 5 A cs.length (flatW cs) := by
  refine ⟨flatW_len cs, fun hn => ?_⟩
  obtain ⟨b, off, e, hB, hc⟩ := h hn
  refine ⟨_, e, hB, fun j u hu => ?_⟩
  rw [addr_add]
  obtain ⟨q, hq⟩ : ∃ q, q = j / 5 := ⟨_, rfl⟩
  have hj4 : q < cs.length := by
    have := (List.getElem?_eq_some_iff.1 hu).1
    rw [flatW_len] at this
    omega
  obtain ⟨⟨g0, g1, g2⟩, g3, g4⟩ := flatW_get cs q
  obtain ⟨h0, h1, h2, h3, h4⟩ := hc _ hj4
  have hk : cs[q]? = some (Wh.wkAt cs q) := by unfold Wh.wkAt; rw [List.getElem?_eq_getElem hj4]; rfl
  rw [hk] at g0 g1 g2 g3 g4
  rcases (by omega : j = q * 5 ∨ j = q * 5 + 1 ∨ j = q * 5 + 2 ∨ j = q * 5 + 3 ∨ j = q * 5 + 4) with hj | hj | hj | hj | hj
  · rw [hj, g0] at hu
    cases hu
    rw [hj]
    exact h0
  · rw [hj, g1] at hu
    cases hu
    rw [hj]
    exact h1
  · rw [hj, g2] at hu
    cases hu
    rw [hj]
    exact h2
  · rw [hj, g3] at hu
    cases hu
    rw [hj]
    exact h3
  · rw [hj, g4] at hu
    cases hu
    rw [hj]
    exact h4
theorem Wks.of_reads {w : World} {B : Nat} {A : Option Addr} {cs : List Wh.Wk} (h : Reads w B 5 A cs.length (flatW cs)) : Wks w B A cs := fun hn => by
  obtain ⟨ad, e, hB, hc⟩ := h.2 hn
  have hk : ∀ k, k < cs.length → cs[k]? = some (Wh.wkAt cs k) := fun k hk => by unfold Wh.wkAt; rw [List.getElem?_eq_getElem hk]; rfl
  have h0 := hc 0 _ ((flatW_get cs 0).1.1.trans (by rw [hk 0 hn]; rfl))
  have hs := World.cell?_spot h0
  obtain ⟨b, off, spot⟩ := ad
  have hs' : spot = none := by simpa [Addr.add] using hs
  subst hs'
  refine ⟨b, off, e, hB, fun k hkn => ?_⟩
  obtain ⟨⟨g0, g1, g2⟩, g3, g4⟩ := flatW_get cs k
  rw [hk k hkn] at g0 g1 g2 g3 g4
  have c0 := hc _ _ g0
  have c1 := hc _ _ g1
  have c2 := hc _ _ g2
  have c3 := hc _ _ g3
  have c4 := hc _ _ g4
  rw [addr_add] at c0 c1 c2 c3 c4
  exact ⟨c0, c1, c2, c3, c4⟩
theorem own_form5 {w : World} {B : Nat} {e : TypeId} {v : Value} {n : Nat} {xs : List Value} (h : w.ownsRow B e 5 v n xs) : ∃ A c, v = .slice A n c := by
  rcases h.2 with ⟨rfl, rfl⟩ | ⟨g, cap, cur, rfl, _⟩
  · exact ⟨none, 0, rfl⟩
  · exact ⟨some ⟨g, 0, none⟩, cap, rfl⟩
theorem wks_of_own {w : World} {B : Nat} {e : TypeId} {A : Option Addr} {c : Nat} {gs : List Wh.Wk} (h : w.ownsRow B e 5 (.slice A gs.length c) gs.length (flatW gs)) : Wks w w.heap.size A gs :=
  Wks.of_reads (Reads.of_own h)
theorem own5_nil (w : World) (B : Nat) : w.ownsRow B 67 5 (.slice none 0 0) 0 (flatW []) := ⟨rfl, .inl ⟨rfl, rfl⟩⟩
section
variable {F : Fence} {n : Nat}
/-- 'append([]Walk{}, l...)' in a held region: a copy in new memory. -/
theorem wpIn_copyw {o : Oper} {a : Act} {K : Act → World → Prop} {Q : Exit → Act → World → Prop} {wr : World} (s y : Operand)
    (ho : o.op = .call { callee := .builtin .append, args := #[s, y], argTypes := #[75, 75] }) (A : Option Addr) (c : Nat) (gs : List Wh.Wk) (g : Nat)
    (hs : a.eval s = .slice (some ⟨g, 0, none⟩) 0 0) (hx : a.eval y = .slice A gs.length c) (h0 : wr.ownsRow g 67 5 (.slice (some ⟨g, 0, none⟩) 0 0) 0 []) (hg : Wks wr wr.heap.size A gs) (hn : gs.length ≤ 1000000000) (hgb : g ≤ wr.heap.size)
    (h : ∀ A' c' w', w'.ownsRow g 67 5 (.slice A' gs.length c') gs.length (flatW gs) → wr.grownBy w' (some g) → K (a.put o.dst (.slice A' gs.length c')) w') : o.wpIn F n Tryz.prog a wr K Q := by
  obtain ⟨i0, hi0, hz0, hz1, hz2⟩ := info_parts5 walk_info
  refine wpIn_append_any wr s y 75 ho g 67 i0 (.agg #[.int .i64 0, .int .i64 0, .int .i64 0, .int .i64 0, .int .i64 0]) 5 40 Tryz.underlying75 hi0 hz0 hz1 hz2 rfl (by decide) (.slice (some ⟨g, 0, none⟩) 0 0) 0 [] hs
    h0 wr.heap.size A gs.length c (flatW gs) hx hg.reads (flatW_one gs) (by simp only [maxLen]; omega) (by omega) hgb ?_
  intro v' w' hown hgr _
  rw [Nat.zero_add, List.nil_append] at hown
  obtain ⟨A', c', rfl⟩ := own_form5 hown
  exact h A' c' w' hown hgr
end
/-- The cells of a row of tests, the walks of each of which are a row of their own. -/
def CpRow (B : Nat) (W : World) (ts : List Ti.Tst) (k : Nat) (xs : List Value) : Prop :=
  xs.length = 2 * k ∧ ∀ q x, q < k → ts[q]? = some x → ∃ A' c', xs[2 * q]? = some (.int .i64 x.1) ∧ xs[2 * q + 1]? = some (.slice A' x.2.length c') ∧ W.ownsRow B 67 5 (.slice A' x.2.length c') x.2.length (flatW x.2) ∧ x.2.length ≤ 1000000000
theorem row_other {W W' : World} {B : Nat} {gs : List Wh.Wk} {A : Option Addr} {n c : Nat} (h : W.ownsRow B 67 5 (.slice A n c) n (flatW gs)) {Bt k : Nat} {v : Value} {ys : List Value} (hT : W.ownsRow Bt 78 2 v k ys) 
    (hW : ∀ i, B ≤ i → i < W.heap.size → some i ≠ v.ownBlock → W'.heap[i]? = W.heap[i]?) : W'.ownsRow B 67 5 (.slice A n c) n (flatW gs) :=
  ownsRow_lit h fun g hg => by
    obtain ⟨l1, l2⟩ := World.ownsRow.lt h g hg
    refine hW g l1 l2 (fun e => ?_)
    rcases h.2 with ⟨e1, _⟩ | ⟨g1, cap1, cur1, e1, _, a1, _⟩
    · rw [e1] at hg; cases hg
    · rw [e1] at hg
      obtain rfl : g1 = g := by simpa [Value.ownBlock] using hg
      rcases hT.2 with ⟨rfl, _⟩ | ⟨g2, cap2, cur2, rfl, _, a2, _⟩
      · cases e
      · obtain rfl : g1 = g2 := by simpa [Value.ownBlock] using e
        rw [a1] at a2
        injection a2 with a2
        injection a2 with _ a2 _
        exact absurd a2 (by decide)
theorem CpRow.kept {W W' : World} {B : Nat} {ts : List Ti.Tst} {k : Nat} {xs : List Value} (h : CpRow B W ts k xs) {Bt k' : Nat} {v : Value} {ys : List Value} (hT : W.ownsRow Bt 78 2 v k' ys) 
    (hW : ∀ i, B ≤ i → i < W.heap.size → some i ≠ v.ownBlock → W'.heap[i]? = W.heap[i]?) : CpRow B W' ts k xs :=
  ⟨h.1, fun q x hq hx => by
    obtain ⟨A', c', h1, h2, h3, h4⟩ := h.2 q x hq hx
    exact ⟨A', c', h1, h2, row_other h3 hT hW, h4⟩⟩
theorem CpRow.below {W W' : World} {B : Nat} {ts : List Ti.Tst} {k : Nat} {xs : List Value} (h : CpRow B W ts k xs) (hb : Below W.heap.size W W') : CpRow B W' ts k xs :=
  ⟨h.1, fun q x hq hx => by
    obtain ⟨A', c', h1, h2, h3, h4⟩ := h.2 q x hq hx
    exact ⟨A', c', h1, h2, owns_below h3 hb, h4⟩⟩
theorem CpRow.wider {W : World} {B B' : Nat} {ts : List Ti.Tst} {k : Nat} {xs : List Value} (h : CpRow B W ts k xs) (hB : B' ≤ B) : CpRow B' W ts k xs :=
  ⟨h.1, fun q x hq hx => by
    obtain ⟨A', c', h1, h2, h3, h4⟩ := h.2 q x hq hx
    exact ⟨A', c', h1, h2, ownsRow_wider h3 hB, h4⟩⟩
theorem CpRow.tsts {W : World} {B Bt : Nat} {A : Option Addr} {c : Nat} {ts : List Ti.Tst} {xs : List Value} (h : CpRow B W ts ts.length xs) (hO : W.ownsRow Bt 78 2 (.slice A ts.length c) ts.length xs) : Tsts W W.heap.size A ts := fun hn => by
  rcases hO.2 with ⟨e, e2⟩ | ⟨g, cap, cur, e, a2, a3, a4⟩
  · injection e with e1 e3; omega
  · have e1 : A = some ⟨g, 0, none⟩ := by injection e
    subst e1
    refine ⟨g, 0, rfl, (Array.getElem?_eq_some_iff.1 a3).1, fun k x hk => ?_⟩
    obtain ⟨A', c', h1, h2, h3, h4⟩ := h.2 k x (List.getElem?_eq_some_iff.1 hk).1 hk
    have c0 := hO.cells (g := g) rfl (2 * k) _ h1
    have c1 := hO.cells (g := g) rfl (2 * k + 1) _ h2
    have ad : ∀ n : Nat, (⟨g, 0, none⟩ : Addr).add n = ⟨g, 0 + n, none⟩ := fun n => addr_add g 0 n
    rw [ad] at c0 c1
    refine ⟨A', c', ?_, ?_, wks_of_own h3, h4⟩
    · rw [Nat.mul_comm k 2]; exact c0
    · rw [Nat.mul_comm k 2]; exact c1
theorem owns_set {W : World} {B BO e size n : Nat} {t : TypeId} {v : Value} {xs : List Value} {vs : Array Value} (h : W.ownsRow B e size v n xs) (hb : BoxS W BO t vs) (hne : t ≠ e) (i : Nat) (u : Value) : (W.setCell ⟨BO, i, none⟩ u).ownsRow B e size v n xs :=
  ownsRow_lit h (fun g hg => Below.heap_setCell _ _ _ g (fun e => row_ne_box h hb hne (by rw [hg]; exact congrArg some e.symm)))
theorem CpRow.set {W : World} {B BO : Nat} {t : TypeId} {vs : Array Value} {ts : List Ti.Tst} {k : Nat} {xs : List Value} (h : CpRow B W ts k xs) (hb : BoxS W BO t vs) (hne : t ≠ 67) (i : Nat) (u : Value) : CpRow B (W.setCell ⟨BO, i, none⟩ u) ts k xs :=
  ⟨h.1, fun q x hq hx => by
    obtain ⟨A', c', h1, h2, h3, h4⟩ := h.2 q x hq hx
    exact ⟨A', c', h1, h2, owns_set h3 hb hne i u, h4⟩⟩
/-- Something is done to the row of tests alone. -/
theorem CpRow.row {W W' : World} {B : Nat} {ts : List Ti.Tst} {k : Nat} {xs : List Value} (h : CpRow B W ts k xs) {Bt k' : Nat} {v : Value} {ys : List Value} (hT : W.ownsRow Bt 78 2 v k' ys) (hW : W.grownBy W' v.ownBlock) : CpRow B W' ts k xs :=
  ⟨h.1, fun q x hq hx => by
    obtain ⟨A', c', h1, h2, h3, h4⟩ := h.2 q x hq hx
    exact ⟨A', c', h1, h2, row_other h3 hT (fun i _ hi hne => hW.block i hi hne), h4⟩⟩
/-- 'l = append(l, x)' on a row of tests of the call's own. -/
theorem wpList_pushT {ops : Array Oper} {rest : List Oper} {o : Oper} {a : Act} {Q : Exit → Act → World → Prop} {wr : World} (hgd : o.guard = none) (s y : Operand)
    (ho : o.op = .call { callee := .builtin .append, args := #[s, y], argTypes := #[26, 26] }) (xa : Int) (A' : Option Addr) (n' c' : Nat) (B : Nat) (v : Value) (n : Nat) (xs : List Value) (hs : a.eval s = v)
    (hx : a.eval y = .slice (some ⟨wr.heap.size, 0, none⟩) 1 1) (hown : wr.ownsRow B 78 2 v n xs) (hB : B ≤ wr.heap.size) (hn : n ≤ 100000)
    (h : ∀ A2 c2 w', w'.ownsRow B 78 2 (.slice A2 (n + 1) c2) (n + 1) (xs ++ [.int .i64 xa, .slice A' n' c']) → (wr.alloc (.cells #[.int .i64 xa, .slice A' n' c'] 78)).grownBy w' v.ownBlock → wpList Tryz.prog ops Q rest (a.put o.dst (.slice A2 (n + 1) c2)) w') :
    wpList Tryz.prog ops Q (o :: rest) a (wr.alloc (.cells #[.int .i64 xa, .slice A' n' c'] 78)) := by
  obtain ⟨i0, hi0, hz0, hz1, hz2⟩ := info_parts1w test_info
  have hb := BoxS.new wr 78 #[.int .i64 xa, .slice A' n' c']
  refine wpList_append_any _ hgd s y 26 ho B 78 i0 (.agg #[.int .i64 0, .slice none 0 0]) 2 32 Tryz.underlying26 hi0 hz0 hz1 hz2 rfl (by decide) v n xs hs (hown.alloc _) _ (some ⟨wr.heap.size, 0, none⟩) 1 1 [.int .i64 xa, .slice A' n' c'] hx (readsT hb) (fun u hu => by
    rcases List.mem_cons.1 hu with rfl | hu
    · rfl
    · obtain rfl : u = .slice A' n' c' := by simpa using hu
      rfl) (by simp only [maxLen]; omega) (by omega) (by simp; omega) ?_
  intro v' w' h2 h3 h4
  obtain ⟨A'', c'', rfl⟩ := own_form2 h2
  exact h A'' c'' w' h2 h3
/-- A copied row of tests with one more test. -/
theorem more_tsts {w W : World} {Bt B : Nat} {A : Option Addr} {c : Nat} {ts : List Ti.Tst} {xs : List Value} {xa : Int} {AX : Option Addr} {xw : List Wh.Wk} {cX : Nat} (hO : W.ownsRow Bt 78 2 (.slice A (ts.length + 1) c) (ts.length + 1) (xs ++ [.int .i64 xa, .slice AX xw.length cX])) (hC : CpRow B W ts ts.length xs)
    (hx : Wks w w.heap.size AX xw) (hB : Below w.heap.size w W) (hxl : xw.length ≤ 1000000000) : Tsts W W.heap.size A (ts ++ [(xa, xw)]) := fun _ => by
  rcases hO.2 with ⟨e, e2⟩ | ⟨g, cap, cur, e, a2, a3, a4⟩
  · injection e with e1 e3; omega
  · have e1 : A = some ⟨g, 0, none⟩ := by injection e
    subst e1
    have hx1 := hC.1
    refine ⟨g, 0, rfl, (Array.getElem?_eq_some_iff.1 a3).1, fun k x hk => ?_⟩
    have ad : ∀ n : Nat, (⟨g, 0, none⟩ : Addr).add n = ⟨g, 0 + n, none⟩ := fun n => addr_add g 0 n
    by_cases hkl : k < ts.length
    · rw [List.getElem?_append_left hkl] at hk
      obtain ⟨A', c', h1, h2, h3, h4⟩ := hC.2 k x hkl hk
      have l1 := (List.getElem?_eq_some_iff.1 h1).1
      have l2 := (List.getElem?_eq_some_iff.1 h2).1
      have c0 := hO.cells (g := g) rfl (2 * k) _ (by rw [List.getElem?_append_left l1]; exact h1)
      have c1 := hO.cells (g := g) rfl (2 * k + 1) _ (by rw [List.getElem?_append_left l2]; exact h2)
      rw [ad] at c0 c1
      refine ⟨A', c', ?_, ?_, wks_of_own h3, h4⟩
      · rw [Nat.mul_comm k 2]; exact c0
      · rw [Nat.mul_comm k 2]; exact c1
    · have hk1 : k = ts.length := by have := (List.getElem?_eq_some_iff.1 hk).1; rw [List.length_append] at this; simp at this; omega
      subst hk1
      rw [List.getElem?_append_right (Nat.le_refl _), Nat.sub_self] at hk
      obtain rfl : (xa, xw) = x := by simpa using hk
      have c0 := hO.cells (g := g) rfl (2 * ts.length) (.int .i64 xa) (by rw [List.getElem?_append_right (by omega), hx1]; simp)
      have c1 := hO.cells (g := g) rfl (2 * ts.length + 1) (.slice AX xw.length cX) (by rw [List.getElem?_append_right (by omega), hx1]; simp)
      rw [ad] at c0 c1
      refine ⟨AX, cX, ?_, ?_, (hx.keep hB).wider hB.size, hxl⟩
      · rw [Nat.mul_comm ts.length 2]; exact c0
      · rw [Nat.mul_comm ts.length 2]; exact c1
end Go.Proofs.YtkmacpkjobdffaaGreat
namespace Go.Proofs.YtkmacpkjobdffaaGreat
open Go.RowKit Go.Maps
/-- A copy: its tests, and the walks of each, are the call's own. -/
def CopyPost (t : Ti.Tri) (w : World) (e : Ending) (w' : World) : Prop := ∃ (AT : Option Addr) (cT : Nat) (xs : List Value), e = .returned (.agg (tiV t AT cT)) ∧ Hid (w'.ownsRow w.heap.size 78 2 (.slice AT t.ts.length cT) t.ts.length xs) ∧ Hid (CpRow w.heap.size w' t.ts t.ts.length xs) ∧ Below w.heap.size w w'
set_option maxRecDepth 100000 in
set_option maxHeartbeats 8000000 in
theorem Copy9_any (t : Ti.Tri) (A : Option Addr) (c : Nat) (w : World) (hn : t.ts.length ≤ 1000) (hg : Tsts w w.heap.size A t.ts) :
    Calls Tryz.prog 10 #[.agg (tiV t A c)] w (CopyPost t w) := by
  have HG := Lib.hid hg
  unfold CopyPost
  clear hg
  obtain ⟨d, gain, ts⟩ := t
  obtain ⟨full, read, slip, skew, circ, glo, ghi, wrn, dws⟩ := d
  unfold tiV at *
  dsimp only at *
  have hmo : Tryz.prog.follows .mixedOrders = true := by kernel_rfl
  go_enter Tryz.func10, Tryz.ntmps10
  go_wp2_with fail
  have bT := ((BoxS.new w 28 #[.int .i64 full, .int .i64 read, .int .i64 slip, .int .i64 skew, .int .i64 circ, .int .i64 glo, .int .i64 ghi, .int .i64 wrn, .int .i64 gain, .slice A ts.length c]).alloc (.cells #[.int .i64 0, .int .i64 0, .int .i64 0, .int .i64 0, .int .i64 0, .int .i64 0, .int .i64 0, .int .i64 0, .int .i64 0, .slice none 0 0] 28)).alloc (.cells #[.int .i64 full, .int .i64 read, .int .i64 slip, .int .i64 skew, .int .i64 circ, .int .i64 glo, .int .i64 ghi, .int .i64 wrn, .int .i64 gain, .slice none 0 0] 28)
  have bR := (BoxS.new (w.alloc (.cells #[.int .i64 full, .int .i64 read, .int .i64 slip, .int .i64 skew, .int .i64 circ, .int .i64 glo, .int .i64 ghi, .int .i64 wrn, .int .i64 gain, .slice A ts.length c] 28)) 28 #[.int .i64 0, .int .i64 0, .int .i64 0, .int .i64 0, .int .i64 0, .int .i64 0, .int .i64 0, .int .i64 0, .int .i64 0, .slice none 0 0]).alloc (.cells #[.int .i64 full, .int .i64 read, .int .i64 slip, .int .i64 skew, .int .i64 circ, .int .i64 glo, .int .i64 ghi, .int .i64 wrn, .int .i64 gain, .slice none 0 0] 28)
  have bO := BoxS.new ((w.alloc (.cells #[.int .i64 full, .int .i64 read, .int .i64 slip, .int .i64 skew, .int .i64 circ, .int .i64 glo, .int .i64 ghi, .int .i64 wrn, .int .i64 gain, .slice A ts.length c] 28)).alloc (.cells #[.int .i64 0, .int .i64 0, .int .i64 0, .int .i64 0, .int .i64 0, .int .i64 0, .int .i64 0, .int .i64 0, .int .i64 0, .slice none 0 0] 28)) 28 #[.int .i64 full, .int .i64 read, .int .i64 slip, .int .i64 skew, .int .i64 circ, .int .i64 glo, .int .i64 ghi, .int .i64 wrn, .int .i64 gain, .slice none 0 0]
  have hB1 : Below w.heap.size w (((w.alloc (.cells #[.int .i64 full, .int .i64 read, .int .i64 slip, .int .i64 skew, .int .i64 circ, .int .i64 glo, .int .i64 ghi, .int .i64 wrn, .int .i64 gain, .slice A ts.length c] 28)).alloc (.cells #[.int .i64 0, .int .i64 0, .int .i64 0, .int .i64 0, .int .i64 0, .int .i64 0, .int .i64 0, .int .i64 0, .int .i64 0, .slice none 0 0] 28)).alloc (.cells #[.int .i64 full, .int .i64 read, .int .i64 slip, .int .i64 skew, .int .i64 circ, .int .i64 glo, .int .i64 ghi, .int .i64 wrn, .int .i64 gain, .slice none 0 0] 28)) := by (repeat' (first | (with_reducible exact Below.refl _ _) | (with_reducible assumption) | (with_reducible refine Below.alloc ?_ ?_ _) | (with_reducible refine Below.drew ?_) | (with_reducible refine Below.setCell ?_ ?_ _) | go_size | (exact (by simp)) | omega))
  simp only [World.size_alloc] at bR bO
  generalize World.alloc (World.alloc (World.alloc w _) _) _ = w1 at *
  go_loopw [4] (fun x4 wr => ∃ (k : Nat) (AT : Option Addr) (cT : Nat) (xs : List Value), (k : Int) ≤ ts.length ∧ x4 = .int .i64 (k : Int) ∧ Below w.heap.size w wr ∧ BoxS wr w.heap.size 28 #[.int .i64 full, .int .i64 read, .int .i64 slip, .int .i64 skew, .int .i64 circ, .int .i64 glo, .int .i64 ghi, .int .i64 wrn, .int .i64 gain, .slice A ts.length c] ∧ BoxS wr (w.heap.size + 1) 28 #[.int .i64 0, .int .i64 0, .int .i64 0, .int .i64 0, .int .i64 0, .int .i64 0, .int .i64 0, .int .i64 0, .int .i64 0, .slice none 0 0] ∧ BoxS wr (w.heap.size + 1 + 1) 28 #[.int .i64 full, .int .i64 read, .int .i64 slip, .int .i64 skew, .int .i64 circ, .int .i64 glo, .int .i64 ghi, .int .i64 wrn, .int .i64 gain, .slice AT k cT] ∧ Hid (wr.ownsRow (w.heap.size + 1 + 1) 78 2 (.slice AT k cT) k xs) ∧ Hid (CpRow (w.heap.size + 1 + 1 + 1) wr ts k xs)) (fun x4 _ => (ts.length - intOf x4).toNat)
  case atStart => exact ⟨0, none, 0, [], by omega, rfl, hB1, bT, bR, bO, World.ownsRow_nil _ _ _ _, rfl, fun q x h => by omega⟩
  case round =>
    clear bT bR bO hB1
    obtain ⟨k, AT, cT, xs, hk, rfl, hB, bT, bR, bO, hO, hC⟩ := hrel
    have hk0 := Int.natCast_nonneg k
    by_cases hlt : (k : Int) < ts.length
    · have hkl : k < ts.length := by omega
      have hw1 : IntKind.i64.wrap ((k : Int) + 1) = (k : Int) + 1 := IntWalk.i64_in _ (by omega)
      obtain ⟨bt, ot, rfl, hbt, hct⟩ := HG.out (by omega)
      obtain ⟨A', c', x0, x1, hwk, hwl⟩ := hct k _ (tst_at hkl)
      have y0 := (hB.cell (p := ⟨bt, _, none⟩) hbt).trans x0
      have y1 := (hB.cell (p := ⟨bt, _, none⟩) hbt).trans x1
      have hgk := Lib.hid (tst_at hkl)
      clear hct x0 x1
      generalize Ti.tstAt ts k = x at *
      obtain ⟨xa, xw⟩ := x
      dsimp only at *
      have kT9 := bT.cell 9 rfl
      have lT := bT.lt
      have hbz := hB.size
      have lO := bO.lt
      go_wp2_with fail
      have KC : Hid (∀ V', (Below (w.heap.size + 1 + 1) wr.drew V' ∧ BoxS V' (w.heap.size + 1 + 1) 28 #[.int .i64 full, .int .i64 read, .int .i64 slip, .int .i64 skew, .int .i64 circ, .int .i64 glo, .int .i64 ghi, .int .i64 wrn, .int .i64 gain, .slice AT k cT]) → (V'.cell? ⟨w.heap.size, 9, none⟩ = some (.slice (some ⟨bt, ot, none⟩) ts.length c) ∧ V'.cell? ⟨w.heap.size + 1 + 1, 9, none⟩ = some (.slice AT k cT) ∧ V'.cell? ⟨bt, ot + k * 2, none⟩ = some (.int .i64 xa) ∧ V'.cell? ⟨bt, ot + k * 2 + 1, none⟩ = some (.slice A' xw.length c'))) := fun V' h =>
        have hk : ∀ (bb o : Nat) (u : Value), bb < w.heap.size + 1 + 1 → wr.cell? ⟨bb, o, none⟩ = some u → V'.cell? ⟨bb, o, none⟩ = some u := fun bb o u h1 h2 => (h.1.cell (p := ⟨bb, o, none⟩) h1).trans h2
        ⟨hk _ _ _ (by omega) kT9, h.2.cell 9 rfl, hk _ _ _ (by omega) y0, hk _ _ _ (by omega) y1⟩
      have q0 : Below (w.heap.size + 1 + 1) wr.drew wr.drew ∧ BoxS wr.drew (w.heap.size + 1 + 1) 28 #[.int .i64 full, .int .i64 read, .int .i64 slip, .int .i64 skew, .int .i64 circ, .int .i64 glo, .int .i64 ghi, .int .i64 wrn, .int .i64 gain, .slice AT k cT] := ⟨Below.refl _ _, bO.drew⟩
      refine (wpIn_wide (n := 4)).1 ?_
      refine wpIn_mono (Q := noPanic _) ?_ noPanic_le
      refine wpIn_region_held (fun V' => Below (w.heap.size + 1 + 1) wr.drew V' ∧ BoxS V' (w.heap.size + 1 + 1) 28 #[.int .i64 full, .int .i64 read, .int .i64 slip, .int .i64 skew, .int .i64 circ, .int .i64 glo, .int .i64 ghi, .int .i64 wrn, .int .i64 gain, .slice AT k cT]) 20 hmo ?_
      refine wpHeldIn_take (i := 0) (v := ?_) (plain_of (by kernel_rfl)) rfl (by kernel_rfl) (fun _ _ _ h => h) (yieldsSoIn_of (by kernel_rfl) ?_ (fun _ => rfl)) q0 ?_; rotate_left; focus (intro wq hw; clear hw; go_simp; try (with_reducible rfl))
      refine wpHeldIn_take (i := 1) (v := ?_) (plain_of (by kernel_rfl)) rfl (by kernel_rfl) (fun _ _ _ h => h) (yieldsSoIn_of (by kernel_rfl) ?_ (fun _ => rfl)) q0 ?_; rotate_left; focus (intro wq hw; have kq := KC.out wq hw; clear hw; go_simp; try (with_reducible rfl))
      refine wpHeldIn_take (i := 2) (v := ?_) (plain_of (by kernel_rfl)) rfl (by kernel_rfl) (fun _ _ _ h => h) (yieldsSoIn_of (by kernel_rfl) ?_ (fun _ => rfl)) q0 ?_; rotate_left; focus (intro wq hw; clear hw; go_simp; try (with_reducible rfl))
      refine wpHeldIn_take (i := 3) (v := ?_) (plain_of (by kernel_rfl)) rfl (by kernel_rfl) (fun _ _ _ h => h) (yieldsSoIn_of (by kernel_rfl) ?_ (fun _ => rfl)) q0 ?_; rotate_left; focus (intro wq hw; have kq := KC.out wq hw; clear hw; go_simp; try (with_reducible rfl))
      refine wpHeldIn_take (i := 4) (v := ?_) (plain_of (by kernel_rfl)) rfl (by kernel_rfl) (fun _ _ _ h => h) (yieldsSoIn_of (by kernel_rfl) ?_ (fun _ => rfl)) q0 ?_; rotate_left; focus (intro wq hw; clear hw; go_simp; try (with_reducible rfl))
      refine wpHeldIn_take (i := 5) (v := ?_) (plain_of (by kernel_rfl)) rfl (by kernel_rfl) (fun _ _ _ h => h) (yieldsSoIn_of (by kernel_rfl) ?_ (fun _ => rfl)) q0 ?_; rotate_left; focus (intro wq hw; clear hw; go_simp; try (with_reducible rfl))
      refine wpHeldIn_take (i := 6) (v := ?_) (plain_of (by kernel_rfl)) rfl (by kernel_rfl) (fun _ _ _ h => h) (yieldsSoIn_of (by kernel_rfl) ?_ (fun _ => rfl)) q0 ?_; rotate_left; focus (intro wq hw; clear hw; go_simp; try (with_reducible rfl))
      refine wpHeldIn_take (i := 7) (v := ?_) (plain_of (by kernel_rfl)) rfl (by kernel_rfl) (fun _ _ _ h => h) (yieldsSoIn_of (by kernel_rfl) ?_ (fun _ => rfl)) q0 ?_; rotate_left; focus (intro wq hw; have kq := KC.out wq hw; clear hw; go_simp; try (with_reducible rfl))
      refine wpHeldIn_take (i := 9) (v := ?_) (plain_of (by kernel_rfl)) rfl (by kernel_rfl) (fun _ _ _ h => h) (yieldsSoIn_of (by kernel_rfl) ?_ (fun _ => rfl)) q0 ?_; rotate_left; focus (intro wq hw; clear hw; go_simp; try (with_reducible rfl))
      refine wpHeldIn_take (i := 10) (v := ?_) (plain_of (by kernel_rfl)) rfl (by kernel_rfl) (fun _ _ _ h => h) (yieldsSoIn_of (by kernel_rfl) ?_ (fun _ => rfl)) q0 ?_; rotate_left; focus (intro wq hw; have kq := KC.out wq hw; clear hw; go_simp; try (with_reducible rfl))
      refine wpHeldIn_take (i := 11) (v := ?_) (plain_of (by kernel_rfl)) rfl (by kernel_rfl) (fun _ _ _ h => h) (yieldsSoIn_of (by kernel_rfl) ?_ (fun _ => rfl)) q0 ?_; rotate_left; focus (intro wq hw; clear hw; go_simp; try (with_reducible rfl))
      refine wpHeldIn_take (i := 12) (v := ?_) (plain_of (by kernel_rfl)) rfl (by kernel_rfl) (fun _ _ _ h => h) (yieldsSoIn_of (by kernel_rfl) ?_ (fun _ => rfl)) q0 ?_; rotate_left; focus (intro wq hw; clear hw; go_simp; try (with_reducible rfl))
      refine wpHeldIn_take (i := 13) (v := ?_) (plain_of (by kernel_rfl)) rfl (by kernel_rfl) (fun _ _ _ h => h) (yieldsSoIn_of (by kernel_rfl) ?_ (fun _ => rfl)) q0 ?_; rotate_left; focus (intro wq hw; clear hw; go_simp; try (with_reducible rfl))
      refine wpHeldIn_take (i := 14) (v := ?_) (plain_of (by kernel_rfl)) rfl (by kernel_rfl) (fun _ _ _ h => h) (yieldsSoIn_of (by kernel_rfl) ?_ (fun _ => rfl)) q0 ?_; rotate_left; focus (intro wq hw; have kq := KC.out wq hw; clear hw; go_simp; try (with_reducible rfl))
      refine wpHeldIn_one (i := 8) (by kernel_rfl) (by kernel_rfl) rfl (by kernel_rfl) (fun K1 hK1 => ?_)
      go_simp
      have hd : wr.drew.heap.size = wr.heap.size := rfl
      have hb1 : Below wr.heap.size wr ((wr.alloc (.cells #[] 67)).drew) := ((Below.refl _ _).alloc (Nat.le_refl _) _).drew
      have q1 : Below (w.heap.size + 1 + 1) wr.drew ((wr.alloc (.cells #[] 67)).drew) := (show Below (w.heap.size + 1 + 1) wr.drew (wr.drew.alloc (.cells #[] 67)) from (Below.refl _ _).alloc (by rw [hd]; omega) _)
      have r1 : ((wr.alloc (.cells #[] 67)).drew).ownsRow wr.heap.size 67 5 (.slice (some ⟨wr.heap.size, 0, none⟩) 0 0) 0 [] := World.ownsRow_made wr #[] 0 (Nat.le_refl _) (by simp [maxLen]) rfl
      refine hK1 _ _ ⟨q1, bO.below hb1⟩ ?_
      refine wpHeldIn_one (i := 15) (by kernel_rfl) (by kernel_rfl) rfl (by kernel_rfl) (fun K2 hK2 => ?_)
      refine wpIn_copyw (.tmp 22) (.tmp 28) rfl A' c' xw wr.heap.size rfl rfl r1 (((hwk.keep hB).wider hbz |> fun h => (h.keep hb1).wider hb1.size)) hwl hb1.size ?_
      intro Aw cw w2 k1 k2
      have hb2 : Below wr.heap.size wr w2 := hb1.grown k2 hb1.size (fun g hg => by obtain rfl : wr.heap.size = g := (by simpa using hg); omega)
      have q2 : Below (w.heap.size + 1 + 1) wr.drew w2 := q1.grown k2 (by have := hb1.size; omega) (fun g hg => by obtain rfl : wr.heap.size = g := (by simpa using hg); omega)
      have s2 : Below (w.heap.size + 1 + 1) wr.drew w2 ∧ BoxS w2 (w.heap.size + 1 + 1) 28 #[.int .i64 full, .int .i64 read, .int .i64 slip, .int .i64 skew, .int .i64 circ, .int .i64 glo, .int .i64 ghi, .int .i64 wrn, .int .i64 gain, .slice AT k cT] := ⟨q2, bO.below hb2⟩
      refine hK2 _ _ s2 ?_
      clear r1 k2 q1 hb1
      refine wpHeldIn_take (i := 16) (v := ?_) (plain_of (by kernel_rfl)) rfl (by kernel_rfl) (fun _ _ _ h => h) (yieldsSoIn_of (by kernel_rfl) ?_ (fun _ => rfl)) s2 ?_; rotate_left; focus (intro wq hw; clear hw; go_simp; try (with_reducible rfl))
      refine wpHeldIn_one (i := 17) (by kernel_rfl) (by kernel_rfl) rfl (by kernel_rfl) (fun K3 hK3 => ?_)
      go_simp
      have hbz2 := hb2.size
      have bX := BoxS.new w2 78 #[.int .i64 xa, .slice Aw xw.length cw]
      have hb3 : Below wr.heap.size wr (w2.alloc (.cells #[.int .i64 xa, .slice Aw xw.length cw] 78)) := hb2.alloc hbz2 _
      have hb23 : Below w2.heap.size w2 (w2.alloc (.cells #[.int .i64 xa, .slice Aw xw.length cw] 78)) := (Below.refl _ _).alloc (Nat.le_refl _) _
      have q3 : Below (w.heap.size + 1 + 1) wr.drew (w2.alloc (.cells #[.int .i64 xa, .slice Aw xw.length cw] 78)) := q2.alloc (by omega) _
      have k3 := owns_below k1 hb23
      have bO3 := bO.below hb3
      have bT3 := bT.below hb3
      have bR3 := bR.below hb3
      have hO3 := owns_below hO.out hb3
      have hB3 := hB.trans (hb3.mono (by omega))
      have s3 := And.intro q3 bO3
      refine hK3 _ _ s3 ?_
      obtain ⟨BX, hBX⟩ : ∃ B, B = w2.heap.size := ⟨_, rfl⟩
      rw [← hBX] at bX
      have hz3 := hb3.size
      refine wpHeldIn_one (i := 18) (by kernel_rfl) (by kernel_rfl) rfl (by kernel_rfl) (fun K4 hK4 => ?_)
      refine wpIn_appT (.tmp 15) (.tmp 31) rfl (w.heap.size + 1 + 1) (.slice AT k cT) k xs rfl hO3 BX xa Aw xw.length cw (by rw [hBX]; rfl) bX (by omega) (by omega) ?_
      intro A2 c2 w4 k4 k5 _
      generalize hW3 : World.alloc w2 _ = w3 at *
      clear hW3
      have hvl : ∀ g, Value.ownBlock (.slice AT k cT) = some g → w.heap.size + 1 + 1 ≤ g ∧ g < wr.heap.size := fun g hg => World.ownsRow.lt hO.out g hg
      have bO4 := bO3.kept k5 (row_ne_box hO3 bO3 (by decide))
      have bT4 := bT3.kept k5 (row_ne_box hO3 bT3 (by decide))
      have bR4 := bR3.kept k5 (row_ne_box hO3 bR3 (by decide))
      have q4 := q3.grown k5 (by omega) (fun g hg => (hvl g hg).1)
      have hB4 := hB3.grown k5 (by omega) (fun g hg => by have := (hvl g hg).1; omega)
      have kw4 : w4.ownsRow wr.heap.size 67 5 (.slice Aw xw.length cw) xw.length (flatW xw) := World.ownsRow.kept k3 k5 (by
        cases hv : Value.ownBlock (.slice Aw xw.length cw) with
        | none => exact .inl rfl
        | some g' =>
          refine .inr fun e => ?_
          have h1 := (World.ownsRow.lt k3 g' hv).1
          have h2 := (hvl g' e.symm).2
          omega)
      have hC4 := hC.out.kept (W' := w4) hO.out (fun i _ hi hne => (k5.block i (by omega) hne).trans (hb3.block i hi))
      have s4 := And.intro q4 bO4
      refine hK4 _ _ s4 ?_
      refine wpHeldIn_take (i := 19) (v := ?_) (plain_of (by kernel_rfl)) rfl (by kernel_rfl) (fun _ _ _ h => h) (yieldsSoIn_of (by kernel_rfl) ?_ (fun _ => rfl)) s4 ?_; rotate_left; focus (intro wq hw; clear hw; go_simp; try (with_reducible rfl))
      have fr := bO4.frozen 9
      have fc := bO4.cell 9 rfl
      refine wpHeldIn_last (by kernel_rfl) rfl (by kernel_rfl) (fun K5 hK5 => ?_)
      go_simp
      have bO5 := bO4.put9 9 (.slice A2 (k + 1) c2)
      have bT5 := bT4.away (B' := w.heap.size + 1 + 1) (by omega) 9 (.slice A2 (k + 1) c2)
      have bR5 := bR4.away (B' := w.heap.size + 1 + 1) (by omega) 9 (.slice A2 (k + 1) c2)
      have hB5 : Below w.heap.size w (w4.setCell ⟨w.heap.size + 1 + 1, 9, none⟩ (.slice A2 (k + 1) c2)) := hB4.setCell (by simp; omega) _
      have hO5 := Lib.hid (ownsRow_lit (w' := w4.setCell ⟨w.heap.size + 1 + 1, 9, none⟩ (.slice A2 (k + 1) c2)) k4 (fun g hg => Below.heap_setCell _ _ _ g (fun e => row_ne_box k4 bO4 (by decide) (by rw [hg]; exact congrArg some e.symm))))
      have hC5 := hC4.kept (W' := w4.setCell ⟨w.heap.size + 1 + 1, 9, none⟩ (.slice A2 (k + 1) c2)) k4 (fun i hiB _ _ => Below.heap_setCell _ _ _ i (by show i ≠ w.heap.size + 1 + 1; omega))
      have kw5 := row_other (W' := w4.setCell ⟨w.heap.size + 1 + 1, 9, none⟩ (.slice A2 (k + 1) c2)) kw4 k4 (fun i hiB _ _ => Below.heap_setCell _ _ _ i (by show i ≠ w.heap.size + 1 + 1; omega))
      have hC6 : Hid (CpRow (w.heap.size + 1 + 1 + 1) (w4.setCell ⟨w.heap.size + 1 + 1, 9, none⟩ (.slice A2 (k + 1) c2)) ts (k + 1) (xs ++ [.int .i64 xa, .slice Aw xw.length cw])) := by
        have hx1 := hC5.1
        refine ⟨by rw [List.length_append, hx1]; rfl, fun q x hq hx => ?_⟩
        by_cases e : q = k
        · subst e
          rw [hgk.out] at hx
          obtain rfl : (xa, xw) = x := by injection hx
          refine ⟨Aw, cw, ?_, ?_, ownsRow_wider kw5 (by omega), hwl⟩
          · rw [List.getElem?_append_right (by omega), hx1]; simp
          · rw [List.getElem?_append_right (by omega), hx1]; simp
        · obtain ⟨A1, c1, h1, h2, h3, h4⟩ := hC5.2 q x (by omega) hx
          have := (List.getElem?_eq_some_iff.1 h1).1
          have := (List.getElem?_eq_some_iff.1 h2).1
          exact ⟨A1, c1, by rw [List.getElem?_append_left (by omega)]; exact h1, by rw [List.getElem?_append_left (by omega)]; exact h2, h3, h4⟩
      refine hK5 _ _ ?_
      clear bO4 bT4 bR4 hB4 k4 k5 q4 s4 fr fc bO3 bT3 bR3 hO3 hB3 bX q3 s3 hb3 hb23 KC q0 k3 kw4 kw5 hC4 hC5 bO bT bR hO hC hB
      generalize World.setCell w4 _ _ = w5 at *
      refine wpHeldIn_done (by kernel_rfl) ?_ _
      go_simp
      refine noPanic_of ?_
      go_wp2_with fail
      go_roundw
      case rel => exact ⟨k + 1, A2, c2, _, by omega, by go_num, hB5, bT5, bR5, bO5, hO5, hC6⟩
      case measure => simp [intOf]; omega
    · have ek : k = ts.length := by omega
      subst ek
      have kT9 := bT.cell 9 rfl
      have j0 := bO.cell 0 rfl
      have z0 := bR.cell 0 rfl
      have f0 := bR.frozen 0
      have j1 := bO.cell 1 rfl
      have z1 := bR.cell 1 rfl
      have f1 := bR.frozen 1
      have j2 := bO.cell 2 rfl
      have z2 := bR.cell 2 rfl
      have f2 := bR.frozen 2
      have j3 := bO.cell 3 rfl
      have z3 := bR.cell 3 rfl
      have f3 := bR.frozen 3
      have j4 := bO.cell 4 rfl
      have z4 := bR.cell 4 rfl
      have f4 := bR.frozen 4
      have j5 := bO.cell 5 rfl
      have z5 := bR.cell 5 rfl
      have f5 := bR.frozen 5
      have j6 := bO.cell 6 rfl
      have z6 := bR.cell 6 rfl
      have f6 := bR.frozen 6
      have j7 := bO.cell 7 rfl
      have z7 := bR.cell 7 rfl
      have f7 := bR.frozen 7
      have j8 := bO.cell 8 rfl
      have z8 := bR.cell 8 rfl
      have f8 := bR.frozen 8
      have j9 := bO.cell 9 rfl
      have z9 := bR.cell 9 rfl
      have f9 := bR.frozen 9
      have lT := bT.lt
      have lR := bR.lt
      have lO := bO.lt
      go_wp2_with fail
      have bR2 := ten_put bR (.int .i64 full) (.int .i64 read) (.int .i64 slip) (.int .i64 skew) (.int .i64 circ) (.int .i64 glo) (.int .i64 ghi) (.int .i64 wrn) (.int .i64 gain) (.slice AT ts.length cT)
      have hB2 := ten_below (B := w.heap.size + 1) hB (by omega) (.int .i64 full) (.int .i64 read) (.int .i64 slip) (.int .i64 skew) (.int .i64 circ) (.int .i64 glo) (.int .i64 ghi) (.int .i64 wrn) (.int .i64 gain) (.slice AT ts.length cT)
      have hO2 := hO.out
      have hO3 : World.ownsRow _ (w.heap.size + 1 + 1) 78 2 (.slice AT ts.length cT) ts.length xs := ownsRow_lit (w' := ((((((((((wr.setCell ⟨w.heap.size + 1, 0, none⟩ (.int .i64 full)).setCell ⟨w.heap.size + 1, 1, none⟩ (.int .i64 read)).setCell ⟨w.heap.size + 1, 2, none⟩ (.int .i64 slip)).setCell ⟨w.heap.size + 1, 3, none⟩ (.int .i64 skew)).setCell ⟨w.heap.size + 1, 4, none⟩ (.int .i64 circ)).setCell ⟨w.heap.size + 1, 5, none⟩ (.int .i64 glo)).setCell ⟨w.heap.size + 1, 6, none⟩ (.int .i64 ghi)).setCell ⟨w.heap.size + 1, 7, none⟩ (.int .i64 wrn)).setCell ⟨w.heap.size + 1, 8, none⟩ (.int .i64 gain)).setCell ⟨w.heap.size + 1, 9, none⟩ (.slice AT ts.length cT))) hO2 (fun g hg => by
        have hge : g ≠ w.heap.size + 1 := by have := (World.ownsRow.lt hO2 g hg).1; omega
        have oth : ∀ (X : World) (i : Nat) (u : Value), (X.setCell ⟨w.heap.size + 1, i, none⟩ u).heap[g]? = X.heap[g]? := fun X i u => Below.heap_setCell _ _ _ g hge
        rw [oth, oth, oth, oth, oth, oth, oth, oth, oth, oth])
      have hC3 := hC.out.kept (W' := ((((((((((wr.setCell ⟨w.heap.size + 1, 0, none⟩ (.int .i64 full)).setCell ⟨w.heap.size + 1, 1, none⟩ (.int .i64 read)).setCell ⟨w.heap.size + 1, 2, none⟩ (.int .i64 slip)).setCell ⟨w.heap.size + 1, 3, none⟩ (.int .i64 skew)).setCell ⟨w.heap.size + 1, 4, none⟩ (.int .i64 circ)).setCell ⟨w.heap.size + 1, 5, none⟩ (.int .i64 glo)).setCell ⟨w.heap.size + 1, 6, none⟩ (.int .i64 ghi)).setCell ⟨w.heap.size + 1, 7, none⟩ (.int .i64 wrn)).setCell ⟨w.heap.size + 1, 8, none⟩ (.int .i64 gain)).setCell ⟨w.heap.size + 1, 9, none⟩ (.slice AT ts.length cT))) hO2 (fun g hgB _ _ => by
        have hge : g ≠ w.heap.size + 1 := by omega
        have oth : ∀ (X : World) (i : Nat) (u : Value), (X.setCell ⟨w.heap.size + 1, i, none⟩ u).heap[g]? = X.heap[g]? := fun X i u => Below.heap_setCell _ _ _ g hge
        rw [oth, oth, oth, oth, oth, oth, oth, oth, oth, oth])
      clear z0 f0 j0 z1 f1 j1 z2 f2 j2 z3 f3 j3 z4 f4 j4 z5 f5 j5 z6 f6 j6 z7 f7 j7 z8 f8 j8 z9 f9 j9 bR hO2 hO hC
      generalize World.setCell (World.setCell (World.setCell (World.setCell (World.setCell (World.setCell (World.setCell (World.setCell (World.setCell (World.setCell wr _ _) _ _) _ _) _ _) _ _) _ _) _ _) _ _) _ _) _ _ = w9 at *
      have z0 := bR2.cell 0 rfl
      have z1 := bR2.cell 1 rfl
      have z2 := bR2.cell 2 rfl
      have z3 := bR2.cell 3 rfl
      have z4 := bR2.cell 4 rfl
      have z5 := bR2.cell 5 rfl
      have z6 := bR2.cell 6 rfl
      have z7 := bR2.cell 7 rfl
      have z8 := bR2.cell 8 rfl
      have z9 := bR2.cell 9 rfl
      exact bodyPost_ret (v := .agg #[.int .i64 full, .int .i64 read, .int .i64 slip, .int .i64 skew, .int .i64 circ, .int .i64 glo, .int .i64 ghi, .int .i64 wrn, .int .i64 gain, .slice AT ts.length cT]) (by simp [results, Tryz.results10, go_sem, z0, z1, z2, z3, z4, z5, z6, z7, z8, z9]) rfl ⟨AT, cT, rfl, xs, ownsRow_wider hO3 (by omega), hC3.wider (by omega), hB2⟩
end Go.Proofs.YtkmacpkjobdffaaGreat
