/- Trials: a file with some of its tests. -/
import Derived.Test.YtkmacpkjobdffaaGreatTiXb
namespace Go.Proofs.YtkmacpkjobdffaaGreat
open Go.RowKit Go.Maps
namespace Ti
/-- A trial with some of its tests. -/
def justT (t : Tri) (s : Nat) : Tri := { t with ts := (listTo s 6).map fun i => tstAt t.ts i.toNat }
theorem listTo_get {s m k : Nat} (h : k < (listTo s m).length) : ∃ i : Nat, (listTo s m)[k]? = some (i : Int) := by
  obtain ⟨x, hx⟩ : ∃ x, (listTo s m)[k]? = some x := ⟨_, List.getElem?_eq_getElem h⟩
  have hm := List.mem_of_getElem? hx
  unfold listTo at hm
  obtain ⟨i, _, e⟩ := List.mem_map.1 hm
  exact ⟨i, by rw [hx, ← e]⟩
end Ti
theorem has_start {w : World} {NB J C size n sT sM : Nat} {t e eT eM : TypeId} {vf : Array Value} {v : Value} {xs : List Value} (hb : BoxS w J t vf) (hJ : NB ≤ J) (hv : w.ownsRow C e size v n xs) (hC : J < C) (hNC : NB ≤ C) :
    Has w NB (.box J t vf :: .row (.slice none 0 0) eT sT 0 [] :: .row (.slice none 0 0) eM sM 0 [] :: .no :: .no :: [.row v e size n xs]) := by
  refine ⟨fun T hT => ?_, ?_⟩
  · simp only [List.mem_cons, List.not_mem_nil, or_false] at hT
    rcases hT with rfl | rfl | rfl | rfl | rfl | rfl
    · exact ⟨hb, hJ⟩
    · exact World.ownsRow_nil _ _ _ _
    · exact World.ownsRow_nil _ _ _ _
    · trivial
    · trivial
    · exact ⟨hv.1, hv.2.imp id fun ⟨g, cap, cur, a1, a2, a3⟩ => ⟨g, cap, cur, a1, by omega, a3⟩⟩
  · have hne : ∀ g, v.ownBlock = some g → J ≠ g := fun g hg => by have := (World.ownsRow.lt hv g hg).1; omega
    simp [Thing.blk, Value.ownBlock]
    exact fun h => hne _ h rfl
theorem ownsRow_lit {w w' : World} {B e size n : Nat} {v : Value} {xs : List Value} (h : w.ownsRow B e size v n xs) (hk : ∀ g, v.ownBlock = some g → w'.heap[g]? = w.heap[g]?) : w'.ownsRow B e size v n xs :=
  ⟨h.1, h.2.imp id fun ⟨g, cap, cur, a1, a2, a3, a4⟩ => ⟨g, cap, cur, a1, a2, (hk g (by rw [a1]; rfl)).trans a3, a4⟩⟩
theorem ownsRow_wider {w : World} {B B' e size n : Nat} {v : Value} {xs : List Value} (h : w.ownsRow B e size v n xs) (hB : B' ≤ B) : w.ownsRow B' e size v n xs :=
  ⟨h.1, h.2.imp id fun ⟨g, cap, cur, a1, a2, a3⟩ => ⟨g, cap, cur, a1, Nat.le_trans hB a2, a3⟩⟩
theorem Has.drop {w : World} {NB : Nat} {L : List Thing} (h : Has w NB L) (i : Nat) {T : Thing} (hi : L[i]? = some T) : Has w NB (L.set i .no) :=
  h.change i hi (row := none) ⟨rfl, rfl, rfl, Nat.le_refl _, fun _ _ _ => rfl⟩ (fun g e => by cases e) (T' := .no) trivial (fun g e => by cases e)
/-- What a file with some of its tests is. -/
def JustPost (t : Ti.Tri) (s : Nat) (w : World) (e : Ending) (w' : World) : Prop :=
  ∃ A c AL cm, e = .returned (.agg (fV (Ti.justT t s) A c AL (Ti.justT t s).ts.length cm)) ∧ Hid (Alw w' w'.heap.size AL (Ti.justT t s)) ∧ Below w.heap.size w w'
set_option maxRecDepth 100000 in
set_option maxHeartbeats 8000000 in
theorem just_any (t : Ti.Tri) (s : Nat) (hs : s < 64) (hn6 : t.ts.length ≤ 6) (hin : ∀ i ∈ Ti.listTo s 6, i < t.ts.length) (A : Option Addr) (c : Nat) (AL : Option Addr) (cm : Nat) (w : World) (hg : Tsts w w.heap.size A t.ts) (hal : Alw w w.heap.size AL t) :
    Calls Tryz.prog 115 #[.agg (fV t A c AL t.ts.length cm), .int .u64 s] w (JustPost t s w) := by
  have HLI : Hid (∀ W, Calls Tryz.prog 76 #[.int .u64 s] W fun e w' => ∃ v, e = .returned v ∧ Hid (w'.ownsRow W.heap.size 3 1 v (Ti.listTo s 6).length ((Ti.listTo s 6).map (Value.int .i64))) ∧ Below W.heap.size W w') := fun W => list_own s hs W
  have HTS : Hid (∀ W, Below w.heap.size w W → Tsts W w.heap.size A t.ts) := fun W hW => hg.keep hW
  have HALW : Hid (∀ W, Below w.heap.size w W → Alw W w.heap.size AL t) := fun W hW => hal.keep hW
  have HLG : Hid (∀ k, k < (Ti.listTo s 6).length → ∃ i : Nat, (Ti.listTo s 6)[k]? = some (i : Int) ∧ i < t.ts.length) := fun k hk => by
    obtain ⟨i, hi⟩ := Ti.listTo_get hk
    refine ⟨i, hi, ?_⟩
    have := hin _ (List.mem_of_getElem? hi)
    omega
  have HJU : Hid (∀ (AT : Option Addr) (cT : Nat) (AM : Option Addr) (cM : Nat) (bs : List Nat) W', Below w.heap.size w W' → W'.ownsRow w.heap.size 125 1 (.slice AM (Ti.listTo s 6).length cM) (Ti.listTo s 6).length (bs.map fun b => Value.map (some b)) → bs.length = (Ti.listTo s 6).length → (∀ k b i, bs[k]? = some b → (Ti.listTo s 6)[k]? = some (i : Int) → b < w.heap.size ∧ SeenT w b (Ti.puts t (Ti.tstAt t.ts i.toNat))) →
      ∃ A c AL cm, Ending.returned (.agg #[.int .i64 t.d.full, .int .i64 t.d.read, .int .i64 t.d.slip, .int .i64 t.d.skew, .int .i64 t.d.circ, .int .i64 t.d.glo, .int .i64 t.d.ghi, .int .i64 t.d.wr, .int .i64 t.gain, .slice AT (Ti.listTo s 6).length cT, .slice AM (Ti.listTo s 6).length cM]) = .returned (.agg (fV (Ti.justT t s) A c AL (Ti.justT t s).ts.length cm)) ∧ Hid (Alw W' W'.heap.size AL (Ti.justT t s)) ∧ Below w.heap.size w W') := fun AT cT AM cM bs W' hB hO hbl hbs => by
    have hlen : (Ti.justT t s).ts.length = (Ti.listTo s 6).length := List.length_map _
    refine ⟨AT, cT, AM, cM, ?_, ?_, hB⟩
    · rw [hlen]
      unfold fV
      rw [hlen]
      rfl
    · intro hn
      rw [hlen] at hn
      rcases hO.2 with ⟨e, e2⟩ | ⟨g, cap, cur, e, a2, a3, a4⟩
      · injection e with e1 e3; omega
      · have e1 : AM = some ⟨g, 0, none⟩ := by injection e
        subst e1
        refine ⟨g, 0, rfl, (Array.getElem?_eq_some_iff.1 a3).1, fun k hk => ?_⟩
        rw [hlen] at hk
        have hk' : k < bs.length := by omega
        obtain ⟨i, hi⟩ := Ti.listTo_get hk
        obtain ⟨h4, h5⟩ := hbs k bs[k] i (List.getElem?_eq_getElem hk') hi
        have h6 : Ti.tstAt (Ti.justT t s).ts k = Ti.tstAt t.ts (Int.toNat i) := by
          unfold Ti.justT Ti.tstAt
          dsimp only
          rw [List.getElem?_map, hi]
          rfl
        refine ⟨bs[k], by have := hB.size; omega, ?_, ?_⟩
        · have := hO.cells (g := g) rfl k (.map (some bs[k])) (by rw [List.getElem?_map, List.getElem?_eq_getElem hk']; rfl)
          by_cases e0 : k = 0
          · subst e0; simpa [Addr.add] using this
          · simpa [Addr.add, e0] using this
        · rw [h6]
          exact h5.keep hB h4
  unfold JustPost
  clear hg hal hin
  unfold fV at *
  generalize hPU : (fun k => Ti.puts t (Ti.tstAt t.ts k)) = PU at *
  have hPU' : ∀ k, Ti.puts t (Ti.tstAt t.ts k) = PU k := fun k => by rw [← hPU]
  simp only [hPU'] at HJU
  have HALP : Hid (∀ W, Below w.heap.size w W → 0 < t.ts.length → ∃ b off, AL = some ⟨b, off, none⟩ ∧ b < w.heap.size ∧ ∀ k, k < t.ts.length → ∃ bk, bk < w.heap.size ∧ W.cell? ⟨b, off + k, none⟩ = some (.map (some bk)) ∧ SeenT w bk (PU k)) := fun W hW hn => by
    obtain ⟨b, off, e, hb, hc⟩ := (HALW.out w (Below.refl _ _)) hn
    refine ⟨b, off, e, hb, fun k hk => ?_⟩
    obtain ⟨bk, h1, h2, h3⟩ := hc k hk
    exact ⟨bk, h1, (hW.cell (p := ⟨b, _, none⟩) hb).trans h2, by rw [← hPU']; exact h3⟩
  clear hPU hPU' HALW
  generalize hJT : Ti.justT t s = JT at *
  clear hJT
  obtain ⟨LS, hLS⟩ : ∃ LS, LS = Ti.listTo s 6 := ⟨_, rfl⟩
  have hL6 : LS.length ≤ 6 := by rw [hLS]; exact Ti.listTo_len _ _
  rw [← hLS] at HLI HLG HJU
  clear hLS
  obtain ⟨d, gain, ts⟩ := t
  obtain ⟨full, read, slip, skew, circ, glo, ghi, wrn, dws⟩ := d
  dsimp only at *
  go_enter Tryz.func115, Tryz.ntmps115
  go_wp2_with fail
  have bF := ((BoxS.new w 84 #[.int .i64 full, .int .i64 read, .int .i64 slip, .int .i64 skew, .int .i64 circ, .int .i64 glo, .int .i64 ghi, .int .i64 wrn, .int .i64 gain, .slice A ts.length c, .slice AL ts.length cm]).alloc (.cells #[.int .i64 0, .int .i64 0, .int .i64 0, .int .i64 0, .int .i64 0, .int .i64 0, .int .i64 0, .int .i64 0, .int .i64 0, .slice none 0 0, .slice none 0 0] 84)).alloc (.cells #[.int .i64 full, .int .i64 read, .int .i64 slip, .int .i64 skew, .int .i64 circ, .int .i64 glo, .int .i64 ghi, .int .i64 wrn, .int .i64 gain, .slice none 0 0, .slice none 0 0] 84)
  have bR := (BoxS.new (w.alloc (.cells #[.int .i64 full, .int .i64 read, .int .i64 slip, .int .i64 skew, .int .i64 circ, .int .i64 glo, .int .i64 ghi, .int .i64 wrn, .int .i64 gain, .slice A ts.length c, .slice AL ts.length cm] 84)) 84 #[.int .i64 0, .int .i64 0, .int .i64 0, .int .i64 0, .int .i64 0, .int .i64 0, .int .i64 0, .int .i64 0, .int .i64 0, .slice none 0 0, .slice none 0 0]).alloc (.cells #[.int .i64 full, .int .i64 read, .int .i64 slip, .int .i64 skew, .int .i64 circ, .int .i64 glo, .int .i64 ghi, .int .i64 wrn, .int .i64 gain, .slice none 0 0, .slice none 0 0] 84)
  have bJ := BoxS.new ((w.alloc (.cells #[.int .i64 full, .int .i64 read, .int .i64 slip, .int .i64 skew, .int .i64 circ, .int .i64 glo, .int .i64 ghi, .int .i64 wrn, .int .i64 gain, .slice A ts.length c, .slice AL ts.length cm] 84)).alloc (.cells #[.int .i64 0, .int .i64 0, .int .i64 0, .int .i64 0, .int .i64 0, .int .i64 0, .int .i64 0, .int .i64 0, .int .i64 0, .slice none 0 0, .slice none 0 0] 84)) 84 #[.int .i64 full, .int .i64 read, .int .i64 slip, .int .i64 skew, .int .i64 circ, .int .i64 glo, .int .i64 ghi, .int .i64 wrn, .int .i64 gain, .slice none 0 0, .slice none 0 0]
  have hB1 : Below w.heap.size w (((w.alloc (.cells #[.int .i64 full, .int .i64 read, .int .i64 slip, .int .i64 skew, .int .i64 circ, .int .i64 glo, .int .i64 ghi, .int .i64 wrn, .int .i64 gain, .slice A ts.length c, .slice AL ts.length cm] 84)).alloc (.cells #[.int .i64 0, .int .i64 0, .int .i64 0, .int .i64 0, .int .i64 0, .int .i64 0, .int .i64 0, .int .i64 0, .int .i64 0, .slice none 0 0, .slice none 0 0] 84)).alloc (.cells #[.int .i64 full, .int .i64 read, .int .i64 slip, .int .i64 skew, .int .i64 circ, .int .i64 glo, .int .i64 ghi, .int .i64 wrn, .int .i64 gain, .slice none 0 0, .slice none 0 0] 84)) := by (repeat' (first | (with_reducible exact Below.refl _ _) | (with_reducible assumption) | (with_reducible refine Below.alloc ?_ ?_ _) | (with_reducible refine Below.drew ?_) | (with_reducible refine Below.setCell ?_ ?_ _) | go_size | (exact (by simp)) | omega))
  simp only [World.size_alloc] at bR bJ
  generalize World.alloc (World.alloc (World.alloc w _) _) _ = w1 at *
  refine (HLI.out _).mono ?_
  rintro e w2 ⟨v, rfl, hv, hb2⟩
  obtain ⟨AV, cV, rfl⟩ := owni_form hv.out
  have lJ1 := bJ.lt
  have HH2 := Lib.hid (has_start (NB := w.heap.size + 1 + 1) (eT := 78) (sT := 2) (eM := 125) (sM := 1) (bJ.below hb2) (Nat.le_refl _) hv.out lJ1 (by omega))
  have bF2 := bF.below hb2
  have bR2 := bR.below hb2
  have hB2 := hB1.trans (hb2.mono hB1.size)
  clear bF bR bJ hb2 hB1 HLI hv lJ1
  generalize w1.heap.size = n1 at *
  go_wp2_with fail
  go_loopw [7, 15] (fun x7 x15 wr => ∃ (k : Nat) (AT : Option Addr) (cT : Nat) (AM : Option Addr) (cM : Nat) (xT : List Value) (bs : List Nat), (k : Int) ≤ LS.length ∧ x15 = .int .i64 (k : Int) ∧ Below w.heap.size w wr ∧ BoxS wr w.heap.size 84 #[.int .i64 full, .int .i64 read, .int .i64 slip, .int .i64 skew, .int .i64 circ, .int .i64 glo, .int .i64 ghi, .int .i64 wrn, .int .i64 gain, .slice A ts.length c, .slice AL ts.length cm] ∧ BoxS wr (w.heap.size + 1) 84 #[.int .i64 0, .int .i64 0, .int .i64 0, .int .i64 0, .int .i64 0, .int .i64 0, .int .i64 0, .int .i64 0, .int .i64 0, .slice none 0 0, .slice none 0 0] ∧
    Hid (Has wr (w.heap.size + 1 + 1) (.box (w.heap.size + 1 + 1) 84 (#[.int .i64 full, .int .i64 read, .int .i64 slip, .int .i64 skew, .int .i64 circ, .int .i64 glo, .int .i64 ghi, .int .i64 wrn, .int .i64 gain, .slice AT k cT, .slice AM k cM]) :: .row (.slice AT k cT) 78 2 k xT :: .row (.slice AM k cM) 125 1 k (bs.map fun b => Value.map (some b)) :: .no :: .no :: [.row (.slice AV LS.length cV) 3 1 LS.length (LS.map (Value.int .i64))])) ∧
    Hid (bs.length = k ∧ ∀ (j b : Nat) (i : Int), bs[j]? = some b → LS[j]? = some i → b < w.heap.size ∧ SeenT w b (PU i.toNat))) (fun _ x15 _ => (LS.length - intOf x15).toNat)
  case atStart => exact ⟨0, none, 0, none, 0, [], [], by omega, rfl, hB2, bF2, bR2, HH2, rfl, fun j b i h => by simp at h⟩
  case round =>
    clear HH2 bF2 bR2
    obtain ⟨k, AT, cT, AM, cM, xT, bs, hk, rfl, hB, bF, bR, hH, hbs⟩ := hrel
    have hk0 := Int.natCast_nonneg k
    by_cases hlt : (k : Int) < LS.length
    · have hkn : k < LS.length := by omega
      have hw1 : IntKind.i64.wrap ((k : Int) + 1) = (k : Int) + 1 := IntWalk.i64_in _ (by omega)
      obtain ⟨i, hi, hit⟩ := HLG.out k hkn
      have hit' : (i : Int) < (ts.length : Int) := by omega
      have hi0 := Int.natCast_nonneg i
      obtain ⟨bT, offT, rfl, hbT, hcT⟩ := (HTS.out wr hB) (by omega)
      obtain ⟨A', c', y0, y1, hwk, hwl⟩ := hcT i _ (tst_at hit)
      obtain ⟨bA, offA, rfl, hbA, hcA⟩ := HALP.out wr hB (by omega)
      obtain ⟨bk, hbk, y2, hS⟩ := hcA i hit
      have hro : wr.ownsRow (w.heap.size + 1 + 1) 3 1 (.slice AV LS.length cV) LS.length (LS.map (Value.int .i64)) := hH.out.get 5 rfl
      obtain ⟨bL, offL, rfl, y3⟩ : ∃ bL offL, AV = some ⟨bL, offL, none⟩ ∧ wr.cell? ⟨bL, offL + k, none⟩ = some (.int .i64 i) := by
        rcases Ints.of_own hro with ⟨_, e2⟩ | ⟨b, off, cap, e2, _, hc⟩
        · rw [e2] at hkn; simp at hkn
        · injection e2 with e2
          exact ⟨b, off, e2, hc k _ hi⟩
      clear hro hwk hcT hcA
      generalize Ti.tstAt ts i = x at *
      obtain ⟨xa, xw⟩ := x
      dsimp only at *
      have hbz := hB.size
      go_wp2_with fail
      have bJ : BoxS wr (w.heap.size + 1 + 1) 84 (#[.int .i64 full, .int .i64 read, .int .i64 slip, .int .i64 skew, .int .i64 circ, .int .i64 glo, .int .i64 ghi, .int .i64 wrn, .int .i64 gain, .slice AT k cT, .slice AM k cM]) := (show Thing.In wr (w.heap.size + 1 + 1) (.box (w.heap.size + 1 + 1) 84 (#[.int .i64 full, .int .i64 read, .int .i64 slip, .int .i64 skew, .int .i64 circ, .int .i64 glo, .int .i64 ghi, .int .i64 wrn, .int .i64 gain, .slice AT k cT, .slice AM k cM])) from hH.out.get 0 rfl).1
      have hmo : Tryz.prog.follows .mixedOrders = true := by kernel_rfl
      have hNw : w.heap.size + 1 + 1 ≤ wr.heap.size := Nat.le_of_lt bJ.lt
      have q0 : Below (w.heap.size + 1 + 1) wr.drew wr.drew := Below.refl _ _
      have KC : Hid (∀ V', Below (w.heap.size + 1 + 1) wr.drew V' → (V'.cell? ⟨w.heap.size, 9, none⟩ = some (.slice (some ⟨bT, offT, none⟩) ts.length c) ∧ V'.cell? ⟨w.heap.size, 10, none⟩ = some (.slice (some ⟨bA, offA, none⟩) ts.length cm) ∧ V'.cell? ⟨bT, offT + i * 2, none⟩ = some (.int .i64 xa) ∧ V'.cell? ⟨bT, offT + i * 2 + 1, none⟩ = some (.slice A' xw.length c') ∧ V'.cell? ⟨bA, offA + i, none⟩ = some (.map (some bk)))) := fun V' h =>
        have hk : ∀ (b o : Nat) (u : Value), b < w.heap.size + 1 + 1 → wr.cell? ⟨b, o, none⟩ = some u → V'.cell? ⟨b, o, none⟩ = some u := fun b o u h1 h2 => (h.cell (p := ⟨b, o, none⟩) h1).trans h2
        ⟨hk _ _ _ (by omega) (bF.cell 9 rfl), hk _ _ _ (by omega) (bF.cell 10 rfl), hk _ _ _ (by omega) y0, hk _ _ _ (by omega) y1, hk _ _ _ (by omega) y2⟩
      have HH := Lib.hid (show Has wr.drew (w.heap.size + 1 + 1) _ from hH.out.below ((Below.refl wr.heap.size wr).drew) (Nat.le_refl _))
      have hB' : Below w.heap.size w wr.drew := hB.drew
      have bF' := bF.drew
      have bR' := bR.drew
      have hNd : w.heap.size + 1 + 1 ≤ wr.drew.heap.size := hNw
      clear y0 y1 y2 y3 bJ hH hB bF bR
      refine (wpIn_wide (n := 4)).1 ?_
      refine wpIn_mono (Q := noPanic _) ?_ noPanic_le
      refine wpIn_region_held (fun V' => Below (w.heap.size + 1 + 1) wr.drew V') 30 hmo ?_
      refine wpHeldIn_take (i := 0) (v := ?_) (plain_of (by kernel_rfl)) rfl (by kernel_rfl) (fun _ _ _ h => h) (yieldsSoIn_of (by kernel_rfl) ?_ (fun _ => rfl)) q0 ?_; rotate_left; focus (intro wq hw; clear hw; go_simp; try (with_reducible rfl))
      refine wpHeldIn_take (i := 1) (v := ?_) (plain_of (by kernel_rfl)) rfl (by kernel_rfl) (fun _ _ _ h => h) (yieldsSoIn_of (by kernel_rfl) ?_ (fun _ => rfl)) q0 ?_; rotate_left; focus (intro wq hw; clear hw; go_simp; try (with_reducible rfl))
      refine wpHeldIn_take (i := 3) (v := ?_) (plain_of (by kernel_rfl)) rfl (by kernel_rfl) (fun _ _ _ h => h) (yieldsSoIn_of (by kernel_rfl) ?_ (fun _ => rfl)) q0 ?_; rotate_left; focus (intro wq hw; clear hw; go_simp; try (with_reducible rfl))
      refine wpHeldIn_take (i := 4) (v := ?_) (plain_of (by kernel_rfl)) rfl (by kernel_rfl) (fun _ _ _ h => h) (yieldsSoIn_of (by kernel_rfl) ?_ (fun _ => rfl)) q0 ?_; rotate_left; focus (intro wq hw; clear hw; go_simp; try (with_reducible rfl))
      refine wpHeldIn_take (i := 5) (v := ?_) (plain_of (by kernel_rfl)) rfl (by kernel_rfl) (fun _ _ _ h => h) (yieldsSoIn_of (by kernel_rfl) ?_ (fun _ => rfl)) q0 ?_; rotate_left; focus (intro wq hw; have kq := KC.out wq hw; clear hw; go_simp; try (with_reducible rfl))
      refine wpHeldIn_take (i := 6) (v := ?_) (plain_of (by kernel_rfl)) rfl (by kernel_rfl) (fun _ _ _ h => h) (yieldsSoIn_of (by kernel_rfl) ?_ (fun _ => rfl)) q0 ?_; rotate_left; focus (intro wq hw; clear hw; go_simp; try (with_reducible rfl))
      refine wpHeldIn_take (i := 7) (v := ?_) (plain_of (by kernel_rfl)) rfl (by kernel_rfl) (fun _ _ _ h => h) (yieldsSoIn_of (by kernel_rfl) ?_ (fun _ => rfl)) q0 ?_; rotate_left; focus (intro wq hw; clear hw; go_simp; try (with_reducible rfl))
      refine wpHeldIn_take (i := 8) (v := ?_) (plain_of (by kernel_rfl)) rfl (by kernel_rfl) (fun _ _ _ h => h) (yieldsSoIn_of (by kernel_rfl) ?_ (fun _ => rfl)) q0 ?_; rotate_left; focus (intro wq hw; have kq := KC.out wq hw; clear hw; go_simp; try (with_reducible rfl))
      refine wpHeldIn_take (i := 11) (v := ?_) (plain_of (by kernel_rfl)) rfl (by kernel_rfl) (fun _ _ _ h => h) (yieldsSoIn_of (by kernel_rfl) ?_ (fun _ => rfl)) q0 ?_; rotate_left; focus (intro wq hw; clear hw; go_simp; try (with_reducible rfl))
      refine wpHeldIn_take (i := 13) (v := ?_) (plain_of (by kernel_rfl)) rfl (by kernel_rfl) (fun _ _ _ h => h) (yieldsSoIn_of (by kernel_rfl) ?_ (fun _ => rfl)) q0 ?_; rotate_left; focus (intro wq hw; clear hw; go_simp; try (with_reducible rfl))
      refine wpHeldIn_take (i := 14) (v := ?_) (plain_of (by kernel_rfl)) rfl (by kernel_rfl) (fun _ _ _ h => h) (yieldsSoIn_of (by kernel_rfl) ?_ (fun _ => rfl)) q0 ?_; rotate_left; focus (intro wq hw; have kq := KC.out wq hw; clear hw; go_simp; try (with_reducible rfl))
      refine wpHeldIn_take (i := 15) (v := ?_) (plain_of (by kernel_rfl)) rfl (by kernel_rfl) (fun _ _ _ h => h) (yieldsSoIn_of (by kernel_rfl) ?_ (fun _ => rfl)) q0 ?_; rotate_left; focus (intro wq hw; clear hw; go_simp; try (with_reducible rfl))
      refine wpHeldIn_take (i := 16) (v := ?_) (plain_of (by kernel_rfl)) rfl (by kernel_rfl) (fun _ _ _ h => h) (yieldsSoIn_of (by kernel_rfl) ?_ (fun _ => rfl)) q0 ?_; rotate_left; focus (intro wq hw; clear hw; go_simp; try (with_reducible rfl))
      refine wpHeldIn_take (i := 17) (v := ?_) (plain_of (by kernel_rfl)) rfl (by kernel_rfl) (fun _ _ _ h => h) (yieldsSoIn_of (by kernel_rfl) ?_ (fun _ => rfl)) q0 ?_; rotate_left; focus (intro wq hw; have kq := KC.out wq hw; clear hw; go_simp; try (with_reducible rfl))
      go_simp
      refine wpHeldIn_app8 (f0 := 0) (N0 := w.heap.size + 1 + 1) (J := w.heap.size + 1 + 1) (tf := 84) (vf := fun x y => #[.int .i64 full, .int .i64 read, .int .i64 slip, .int .i64 skew, .int .i64 circ, .int .i64 glo, .int .i64 ghi, .int .i64 wrn, .int .i64 gain, x, y]) (k := k) (AT0 := AT) (cT0 := cT) (AM0 := AM) (cM0 := cM) (xT := xT) (xM := bs.map fun b => Value.map (some b)) (xa := xa) (A' := A') (n' := xw.length) (c' := c') (bk := bk) rfl rfl rfl rfl rfl rfl rfl rfl rfl rfl rfl rfl rfl rfl rfl rfl rfl rfl rfl rfl rfl rfl rfl rfl rfl rfl rfl rfl rfl rfl rfl rfl rfl rfl (by kernel_rfl) rfl (by kernel_rfl) (of_decide_eq_true (by kernel_rfl)) rfl rfl rfl rfl rfl (by omega) hNd (fun _ _ => rfl) (fun _ _ => rfl) (fun _ _ _ => rfl) (fun _ _ _ => rfl) _ HH.out (fun V h => h) ?_
      intro v1 v3 AT' cT' AM' cM' T4 T5 w5 hB5 hH5
      have HH6 := Lib.hid ((hH5.drop 3 rfl).drop 4 rfl)
      dsimp only [List.set] at HH6
      have hB6 := hB'.trans (hB5.mono (by omega))
      have bF6 : BoxS w5 w.heap.size _ _ := (hB5.block w.heap.size (by omega)).trans bF'
      have bR6 : BoxS w5 (w.heap.size + 1) _ _ := (hB5.block (w.heap.size + 1) (by omega)).trans bR'
      clear hH5 hB5 HH hB' bF' bR' KC q0
      refine wpHeldIn_done (by kernel_rfl) ?_ _
      go_simp
      refine noPanic_of ?_
      go_wp2_with fail
      go_roundw
      case rel =>
        refine ⟨k + 1, AT', cT', AM', cM', xT ++ [Value.int .i64 xa, Value.slice A' xw.length c'], bs ++ [bk], by omega, by go_num, hB6, bF6, bR6, ?_, ?_⟩
        · have e : (bs ++ [bk]).map (fun b => Value.map (some b)) = bs.map (fun b => Value.map (some b)) ++ [.map (some bk)] := by rw [List.map_append]; rfl
          rw [e]
          exact HH6
        · refine ⟨by rw [List.length_append, hbs.out.1]; rfl, fun j b i' hj hi' => ?_⟩
          by_cases hl : j < bs.length
          · rw [List.getElem?_append_left hl] at hj
            exact hbs.out.2 j b i' hj hi'
          · rw [List.getElem?_append_right (by omega)] at hj
            have e : j - bs.length = 0 := by
              by_cases e : j - bs.length = 0
              · exact e
              · rw [List.getElem?_eq_none (by simp; omega)] at hj; cases hj
            rw [e] at hj
            have hj' : bk = b := by simpa using hj
            have hk' : j = k := by have := hbs.out.1; omega
            subst hj' hk'
            rw [hi] at hi'
            have hi'' : (i : Int) = i' := by injection hi'
            subst hi''
            exact ⟨hbk, by simpa using hS⟩
      case measure => simp [intOf]; omega
    · have ek : k = LS.length := by omega
      subst ek
      have hJb := (show Thing.In wr (w.heap.size + 1 + 1) (.box (w.heap.size + 1 + 1) 84 (#[.int .i64 full, .int .i64 read, .int .i64 slip, .int .i64 skew, .int .i64 circ, .int .i64 glo, .int .i64 ghi, .int .i64 wrn, .int .i64 gain, .slice AT LS.length cT, .slice AM LS.length cM])) from hH.out.get 0 rfl).1
      have hrow : wr.ownsRow (w.heap.size + 1 + 1) 125 1 (.slice AM LS.length cM) LS.length (bs.map fun b => Value.map (some b)) := hH.out.get 2 rfl
      clear hH
      have j0 := hJb.cell 0 rfl
      have z0 := bR.cell 0 rfl
      have f0 := bR.frozen 0
      have j1 := hJb.cell 1 rfl
      have z1 := bR.cell 1 rfl
      have f1 := bR.frozen 1
      have j2 := hJb.cell 2 rfl
      have z2 := bR.cell 2 rfl
      have f2 := bR.frozen 2
      have j3 := hJb.cell 3 rfl
      have z3 := bR.cell 3 rfl
      have f3 := bR.frozen 3
      have j4 := hJb.cell 4 rfl
      have z4 := bR.cell 4 rfl
      have f4 := bR.frozen 4
      have j5 := hJb.cell 5 rfl
      have z5 := bR.cell 5 rfl
      have f5 := bR.frozen 5
      have j6 := hJb.cell 6 rfl
      have z6 := bR.cell 6 rfl
      have f6 := bR.frozen 6
      have j7 := hJb.cell 7 rfl
      have z7 := bR.cell 7 rfl
      have f7 := bR.frozen 7
      have j8 := hJb.cell 8 rfl
      have z8 := bR.cell 8 rfl
      have f8 := bR.frozen 8
      have j9 := hJb.cell 9 rfl
      have z9 := bR.cell 9 rfl
      have f9 := bR.frozen 9
      have j10 := hJb.cell 10 rfl
      have z10 := bR.cell 10 rfl
      have f10 := bR.frozen 10
      go_wp2_with fail
      have lR := bR.lt
      have bR2 := eleven_put bR (.int .i64 full) (.int .i64 read) (.int .i64 slip) (.int .i64 skew) (.int .i64 circ) (.int .i64 glo) (.int .i64 ghi) (.int .i64 wrn) (.int .i64 gain) (.slice AT LS.length cT) (.slice AM LS.length cM)
      have hA2 := eleven_apart (b := w.heap.size) (c := wr.heap.size) (B := w.heap.size + 1) wr (by omega) lR (.int .i64 full) (.int .i64 read) (.int .i64 slip) (.int .i64 skew) (.int .i64 circ) (.int .i64 glo) (.int .i64 ghi) (.int .i64 wrn) (.int .i64 gain) (.slice AT LS.length cT) (.slice AM LS.length cM)
      have hBz := hB.size
      have hB2 := hB.trans (hA2.below (by omega))
      have hk2 : ∀ i, i ≠ w.heap.size + 1 → _ := eleven_heap wr (w.heap.size + 1) (.int .i64 full) (.int .i64 read) (.int .i64 slip) (.int .i64 skew) (.int .i64 circ) (.int .i64 glo) (.int .i64 ghi) (.int .i64 wrn) (.int .i64 gain) (.slice AT LS.length cT) (.slice AM LS.length cM)
      have hrow2 := ownsRow_lit hrow (fun g hg => hk2 g (by have := (World.ownsRow.lt hrow g hg).1; omega))
      clear z0 f0 j0 z1 f1 j1 z2 f2 j2 z3 f3 j3 z4 f4 j4 z5 f5 j5 z6 f6 j6 z7 f7 j7 z8 f8 j8 z9 f9 j9 z10 f10 j10 hA2 hrow bR
      generalize World.setCell (World.setCell (World.setCell (World.setCell (World.setCell (World.setCell (World.setCell (World.setCell (World.setCell (World.setCell (World.setCell wr _ _) _ _) _ _) _ _) _ _) _ _) _ _) _ _) _ _) _ _) _ _ = w9 at *
      have z0 := bR2.cell 0 rfl
      have z1 := bR2.cell 1 rfl
      have z2 := bR2.cell 2 rfl
      have z3 := bR2.cell 3 rfl
      have z4 := bR2.cell 4 rfl
      have z5 := bR2.cell 5 rfl
      have z6 := bR2.cell 6 rfl
      have z7 := bR2.cell 7 rfl
      have z8 := bR2.cell 8 rfl
      have z9 := bR2.cell 9 rfl
      have z10 := bR2.cell 10 rfl
      obtain ⟨A1, c1, AL1, cm1, r1, r2, r3⟩ := HJU.out AT cT AM cM bs w9 hB2 (ownsRow_wider hrow2 (by omega)) hbs.out.1 hbs.out.2
      exact bodyPost_ret (v := .agg #[.int .i64 full, .int .i64 read, .int .i64 slip, .int .i64 skew, .int .i64 circ, .int .i64 glo, .int .i64 ghi, .int .i64 wrn, .int .i64 gain, .slice AT LS.length cT, .slice AM LS.length cM]) (by simp [results, Tryz.results115, go_sem, z0, z1, z2, z3, z4, z5, z6, z7, z8, z9, z10]) rfl ⟨A1, c1, AL1, ⟨cm1, r1⟩, r2, r3⟩
end Go.Proofs.YtkmacpkjobdffaaGreat
