/- Contract of the neighbours of a ratio. -/
import Derived.Test.YtfjcmmdfipppoaaArmsM
namespace Go.Proofs.Ytfjcmmdfipppoaa
open Go.RowKit

/-- Two ratios in memory as results. -/
theorem ret_rat2 {fn : Func} {p q : Tmp} {a : Act} {w : World} {R : Ending → World → Prop} {b c : Nat} {x y z v : Value} (h : fn.results = #[.cell p 23, .cell q 23])
    (hp : a.tmps.getD p undef = .pointer (some ⟨b, 0, none⟩)) (hq : a.tmps.getD q undef = .pointer (some ⟨c, 0, none⟩)) (hx : w.cell? ⟨b, 0, none⟩ = some x) (hy : w.cell? ⟨b, 1, none⟩ = some y)
    (hz : w.cell? ⟨c, 0, none⟩ = some z) (hv : w.cell? ⟨c, 1, none⟩ = some v) (hd : a.defers = []) (hR : R (.returned (.tuple #[.agg #[x, y], .agg #[z, v]])) w) : bodyPost Try.prog fn R .ret a w := by
  refine bodyPost_ret ?_ hd hR
  have hp' : a.tmps[p]?.getD undef = .pointer (some ⟨b, 0, none⟩) := by simpa using hp
  have hq' : a.tmps[q]?.getD undef = .pointer (some ⟨c, 0, none⟩) := by simpa using hq
  simp [results, h, hp', hq', asAddr, load_rat w b x y hx hy, load_rat w c z v hz hv]
/-- What neighbours returns. -/
def SomeNb (n d M : Int) (w : World) (r : Ending) (w' : World) : Prop :=
  ∃ a b c e : Int, r = .returned (.tuple #[.agg #[.int .i64 a, .int .i64 b], .agg #[.int .i64 c, .int .i64 e]]) ∧ Best.Nb n d M a b c e ∧ M < b + e ∧ Below w.heap.size w w'

set_option maxHeartbeats 2000000 in
theorem neighbours_any (n d M : Int) (w : World) (hg : Int.gcd n d = 1) (hM1 : 1 ≤ M) (hMd : M < d) (hd : d ≤ 1000000) (hn : -1000000 ≤ n ∧ n ≤ 1000000) :
    Calls Try.prog 62 #[.agg #[.int .i64 n, .int .i64 d], .int .i64 M] w (SomeNb n d M w) := by
  have hstart := Lib.hid (Best.start hg (by omega : 1 < d) hM1)
  have HG := Lib.hid hg
  have q1 : -1000001 ≤ n / d ∧ n / d ≤ 1000000 := by
    have h1 := Int.emod_nonneg n (b := d) (by omega)
    have h2 := Int.emod_lt_of_pos n (b := d) (by omega)
    have h3 := Int.emod_add_mul_ediv n d
    constructor
    · refine Int.le_ediv_of_mul_le (by omega) ?_
      have := Best.mul_le (x := 1) (y := d) (z := 1000001) (by omega) (by omega)
      omega
    · refine Int.ediv_le_of_le_mul (by omega) ?_
      have := Best.mul_le (x := 1) (y := d) (z := 1000000) (by omega) (by omega)
      omega
  clear hg
  go_enter Try.func62, Try.ntmps62
  go_wp2_with fail
  refine (roundedDown_any n d _ (by omega) hn.1 hn.2).mono ?_
  rintro e w1 ⟨rfl, hb1⟩
  have hB1 : Below w.heap.size w w1 := Below.trans (by (repeat' (first | (with_reducible exact Below.refl _ _) | (with_reducible assumption) | (with_reducible refine Below.alloc ?_ ?_ _) | (with_reducible refine below_drewN ?_ _) | (with_reducible refine Below.drew ?_) | (with_reducible refine Below.setCell ?_ ?_ _) | go_size))) (hb1.mono (by first | omega | (simp; done) | (simp; omega))); have hz1 := hb1.size; try simp at hz1
  have hl1n : w.heap.size < w1.heap.size := (by omega); have hx1n0 : w1.cell? ⟨w.heap.size, 0, none⟩ = some (.int .i64 (n)) := (by rw [(hb1.cell (by first | omega | (simp; done) | (simp; omega)))]; (repeat (rw [World.cell?_alloc_lt _ _ _ (by first | omega | (simp; done) | (simp; omega))])); go_cell); have hx1n1 : w1.cell? ⟨w.heap.size, 1, none⟩ = some (.int .i64 (d)) := (by rw [(hb1.cell (by first | omega | (simp; done) | (simp; omega)))]; (repeat (rw [World.cell?_alloc_lt _ _ _ (by first | omega | (simp; done) | (simp; omega))])); go_cell)
  have hl1l : w.heap.size + 1 < w1.heap.size := (by omega); have hx1l0 : w1.cell? ⟨w.heap.size + 1, 0, none⟩ = some (.int .i64 (0)) := (by rw [(hb1.cell (by first | omega | (simp; done) | (simp; omega)))]; (repeat (rw [World.cell?_alloc_lt _ _ _ (by first | omega | (simp; done) | (simp; omega))])); go_cell); have hx1l1 : w1.cell? ⟨w.heap.size + 1, 1, none⟩ = some (.int .i64 (0)) := (by rw [(hb1.cell (by first | omega | (simp; done) | (simp; omega)))]; (repeat (rw [World.cell?_alloc_lt _ _ _ (by first | omega | (simp; done) | (simp; omega))])); go_cell)
  have hp1l0 : w1.frozen? ⟨w.heap.size + 1, 0, none⟩ = false := (by rw [(hb1.frozen (by first | omega | (simp; done) | (simp; omega)))]; first | (with_reducible assumption) | (go_simp; done) | (simp [*]; done)); have hp1l1 : w1.frozen? ⟨w.heap.size + 1, 1, none⟩ = false := (by rw [(hb1.frozen (by first | omega | (simp; done) | (simp; omega)))]; first | (with_reducible assumption) | (go_simp; done) | (simp [*]; done))
  have hl1h : w.heap.size + 1 + 1 < w1.heap.size := (by omega); have hx1h0 : w1.cell? ⟨w.heap.size + 1 + 1, 0, none⟩ = some (.int .i64 (0)) := (by rw [(hb1.cell (by first | omega | (simp; done) | (simp; omega)))]; (repeat (rw [World.cell?_alloc_lt _ _ _ (by first | omega | (simp; done) | (simp; omega))])); go_cell); have hx1h1 : w1.cell? ⟨w.heap.size + 1 + 1, 1, none⟩ = some (.int .i64 (0)) := (by rw [(hb1.cell (by first | omega | (simp; done) | (simp; omega)))]; (repeat (rw [World.cell?_alloc_lt _ _ _ (by first | omega | (simp; done) | (simp; omega))])); go_cell)
  have hp1h0 : w1.frozen? ⟨w.heap.size + 1 + 1, 0, none⟩ = false := (by rw [(hb1.frozen (by first | omega | (simp; done) | (simp; omega)))]; first | (with_reducible assumption) | (go_simp; done) | (simp [*]; done)); have hp1h1 : w1.frozen? ⟨w.heap.size + 1 + 1, 1, none⟩ = false := (by rw [(hb1.frozen (by first | omega | (simp; done) | (simp; omega)))]; first | (with_reducible assumption) | (go_simp; done) | (simp [*]; done))
  go_wp2_with fail
  go_loopg [] (2 * M).toNat (fun k wr => ∃ a b c e : Int, 2 * M - b - e ≤ k ∧ Best.Nb n d M a b c e ∧ Below w.heap.size w wr ∧ w.heap.size + 1 + 1 < wr.heap.size ∧
    (wr.cell? ⟨w.heap.size, 0, none⟩ = some (.int .i64 n) ∧ wr.cell? ⟨w.heap.size, 1, none⟩ = some (.int .i64 d)) ∧ (wr.cell? ⟨w.heap.size + 1, 0, none⟩ = some (.int .i64 a) ∧ wr.cell? ⟨w.heap.size + 1, 1, none⟩ = some (.int .i64 b)) ∧
    (wr.cell? ⟨w.heap.size + 1 + 1, 0, none⟩ = some (.int .i64 c) ∧ wr.cell? ⟨w.heap.size + 1 + 1, 1, none⟩ = some (.int .i64 e)) ∧ (wr.frozen? ⟨w.heap.size + 1, 0, none⟩ = false ∧ wr.frozen? ⟨w.heap.size + 1, 1, none⟩ = false) ∧
    (wr.frozen? ⟨w.heap.size + 1 + 1, 0, none⟩ = false ∧ wr.frozen? ⟨w.heap.size + 1 + 1, 1, none⟩ = false))
  case atStart =>
    refine ⟨n / d, 1, n / d + 1, 1, by omega, hstart.out, by (repeat' (first | (with_reducible exact Below.refl _ _) | (with_reducible assumption) | (with_reducible refine Below.alloc ?_ ?_ _) | (with_reducible refine below_drewN ?_ _) | (with_reducible refine Below.drew ?_) | (with_reducible refine Below.setCell ?_ ?_ _) | go_size)), by simp; omega, ⟨by go_cell, by go_cell⟩, ⟨by go_cell, by go_cell⟩, ⟨by go_cell, by go_cell⟩, ⟨?_, ?_⟩, ?_, ?_⟩
    all_goals simp [*]
  case round =>
    obtain ⟨a, b, c, e, hk, hnb, hB, hz, ⟨n0, n1⟩, ⟨a0, a1⟩, ⟨c0, c1⟩, ⟨f0, f1⟩, f2, f3⟩ := hrel
    have bd := nb_bounds hnb (by omega) (by omega) hn
    have b1 := hnb.b1
    have b2 := hnb.bM
    have b3 := hnb.e1
    have b4 := hnb.eM
    have HN := Lib.hid hnb
    clear hnb
    by_cases hs : b + e ≤ M
    · have hP : Hid (Best.dst n d a b = n * b - a * d) := bd.2.2.2.2.1
      have hQ : Hid (Best.dst n d c e = c * d - n * e) := bd.2.2.2.2.2.1
      have hQ1 : 1 ≤ Best.dst n d c e := by rw [hQ.out]; exact HN.out.hi
      obtain ⟨bd1, bd2, bd3, bd4, _, _, bd5, bd6⟩ := bd
      go_wp2_with fail
      refine (moved_any a b c e n d M _ b1 b2 (by omega) b3 (by omega) bd1 bd2 hn bd3 bd4 hQ1).mono ?_
      rintro r w2 ⟨rfl, hb2⟩
      have hz2 := hb2.size
      generalize hT : Best.times M b e (Best.dst n d a b) (Best.dst n d c e) = T
      rw [hP.out, hQ.out] at hT
      have r1 := Best.round1 HN.out HG.out hMd hT.symm
      have hnb1 := r1.1
      have HT := Lib.hid hT
      clear r1 hT
      have bdx := nb_bounds hnb1 (by omega) (by omega) hn
      have HN1 := Lib.hid hnb1
      have b1' := hnb1.b1
      have b2' := hnb1.bM
      clear hnb1
      have HA : Hid (∃ a' b', a' = a + T * c ∧ b' = b + T * e) := ⟨_, _, rfl, rfl⟩
      generalize ha' : a + T * c = a' at *
      generalize hb' : b + T * e = b' at *
      have HA' := Lib.hid ha'
      have HB' := Lib.hid hb'
      clear ha' hb' HA
      have hP1 : Hid (Best.dst n d a' b' = n * b' - a' * d) := bdx.2.2.2.2.1
      have hP2 : 1 ≤ Best.dst n d a' b' := by rw [hP1.out]; exact HN1.out.lo
      obtain ⟨be1, be2, be3, be4, _, _, be5, be6⟩ := bdx
      have hl2n : w.heap.size < w2.heap.size := (by omega); have hx2n0 : w2.cell? ⟨w.heap.size, 0, none⟩ = some (.int .i64 (n)) := (by rw [(hb2.cell (by first | omega | (simp; done) | (simp; omega)))]; (repeat (rw [World.cell?_alloc_lt _ _ _ (by first | omega | (simp; done) | (simp; omega))])); go_cell); have hx2n1 : w2.cell? ⟨w.heap.size, 1, none⟩ = some (.int .i64 (d)) := (by rw [(hb2.cell (by first | omega | (simp; done) | (simp; omega)))]; (repeat (rw [World.cell?_alloc_lt _ _ _ (by first | omega | (simp; done) | (simp; omega))])); go_cell)
      have hl2l : w.heap.size + 1 < w2.heap.size := (by omega); have hx2l0 : w2.cell? ⟨w.heap.size + 1, 0, none⟩ = some (.int .i64 (a)) := (by rw [(hb2.cell (by first | omega | (simp; done) | (simp; omega)))]; (repeat (rw [World.cell?_alloc_lt _ _ _ (by first | omega | (simp; done) | (simp; omega))])); go_cell); have hx2l1 : w2.cell? ⟨w.heap.size + 1, 1, none⟩ = some (.int .i64 (b)) := (by rw [(hb2.cell (by first | omega | (simp; done) | (simp; omega)))]; (repeat (rw [World.cell?_alloc_lt _ _ _ (by first | omega | (simp; done) | (simp; omega))])); go_cell)
      have hp2l0 : w2.frozen? ⟨w.heap.size + 1, 0, none⟩ = false := (by rw [(hb2.frozen (by first | omega | (simp; done) | (simp; omega)))]; first | (with_reducible assumption) | (go_simp; done) | (simp [*]; done)); have hp2l1 : w2.frozen? ⟨w.heap.size + 1, 1, none⟩ = false := (by rw [(hb2.frozen (by first | omega | (simp; done) | (simp; omega)))]; first | (with_reducible assumption) | (go_simp; done) | (simp [*]; done))
      have hl2h : w.heap.size + 1 + 1 < w2.heap.size := (by omega); have hx2h0 : w2.cell? ⟨w.heap.size + 1 + 1, 0, none⟩ = some (.int .i64 (c)) := (by rw [(hb2.cell (by first | omega | (simp; done) | (simp; omega)))]; (repeat (rw [World.cell?_alloc_lt _ _ _ (by first | omega | (simp; done) | (simp; omega))])); go_cell); have hx2h1 : w2.cell? ⟨w.heap.size + 1 + 1, 1, none⟩ = some (.int .i64 (e)) := (by rw [(hb2.cell (by first | omega | (simp; done) | (simp; omega)))]; (repeat (rw [World.cell?_alloc_lt _ _ _ (by first | omega | (simp; done) | (simp; omega))])); go_cell)
      have hp2h0 : w2.frozen? ⟨w.heap.size + 1 + 1, 0, none⟩ = false := (by rw [(hb2.frozen (by first | omega | (simp; done) | (simp; omega)))]; first | (with_reducible assumption) | (go_simp; done) | (simp [*]; done)); have hp2h1 : w2.frozen? ⟨w.heap.size + 1 + 1, 1, none⟩ = false := (by rw [(hb2.frozen (by first | omega | (simp; done) | (simp; omega)))]; first | (with_reducible assumption) | (go_simp; done) | (simp [*]; done))
      have hB2 := hB.trans (hb2.mono hB.size)
      go_wp2_with fail
      refine (moved_any c e a' b' n d M _ b3 b4 (by omega) b1' (by omega) be2 be1 hn be4 be3 hP2).mono ?_
      rintro r w3 ⟨rfl, hb3⟩
      have hz3 := hb3.size
      try simp at hz3
      generalize hU : Best.times M e b' (Best.dst n d c e) (Best.dst n d a' b') = U
      rw [hP1.out, hQ.out] at hU
      have r2 := Best.round2 HN1.out HG.out hMd hU.symm
      have HU := Lib.hid hU
      clear hU
      have HR := Lib.hid r2.1
      have hmore : b + e < b' + (e + U * b') := by
        have := (Best.rounds (U := U) HN.out HG.out hMd hs HT.out.symm (by rw [HA'.out, HB'.out]; exact HU.out.symm)).2
        rw [HB'.out] at this
        exact this
      clear r2
      have hB3 : Below w.heap.size w w3 := Below.trans (by (repeat' (first | (with_reducible exact Below.refl _ _) | (with_reducible assumption) | (with_reducible refine Below.alloc ?_ ?_ _) | (with_reducible refine below_drewN ?_ _) | (with_reducible refine Below.drew ?_) | (with_reducible refine Below.setCell ?_ ?_ _) | go_size))) (hb3.mono (by first | omega | (simp; done) | (simp; omega)))
      have hl3n : w.heap.size < w3.heap.size := (by omega); have hx3n0 : w3.cell? ⟨w.heap.size, 0, none⟩ = some (.int .i64 (n)) := (by rw [(hb3.cell (by first | omega | (simp; done) | (simp; omega)))]; (repeat (rw [World.cell?_alloc_lt _ _ _ (by first | omega | (simp; done) | (simp; omega))])); go_cell); have hx3n1 : w3.cell? ⟨w.heap.size, 1, none⟩ = some (.int .i64 (d)) := (by rw [(hb3.cell (by first | omega | (simp; done) | (simp; omega)))]; (repeat (rw [World.cell?_alloc_lt _ _ _ (by first | omega | (simp; done) | (simp; omega))])); go_cell)
      have hl3l : w.heap.size + 1 < w3.heap.size := (by omega); have hx3l0 : w3.cell? ⟨w.heap.size + 1, 0, none⟩ = some (.int .i64 (a')) := (by rw [(hb3.cell (by first | omega | (simp; done) | (simp; omega)))]; (repeat (rw [World.cell?_alloc_lt _ _ _ (by first | omega | (simp; done) | (simp; omega))])); go_cell); have hx3l1 : w3.cell? ⟨w.heap.size + 1, 1, none⟩ = some (.int .i64 (b')) := (by rw [(hb3.cell (by first | omega | (simp; done) | (simp; omega)))]; (repeat (rw [World.cell?_alloc_lt _ _ _ (by first | omega | (simp; done) | (simp; omega))])); go_cell)
      have hp3l0 : w3.frozen? ⟨w.heap.size + 1, 0, none⟩ = false := (by rw [(hb3.frozen (by first | omega | (simp; done) | (simp; omega)))]; first | (with_reducible assumption) | (go_simp; done) | (simp [*]; done)); have hp3l1 : w3.frozen? ⟨w.heap.size + 1, 1, none⟩ = false := (by rw [(hb3.frozen (by first | omega | (simp; done) | (simp; omega)))]; first | (with_reducible assumption) | (go_simp; done) | (simp [*]; done))
      have hl3h : w.heap.size + 1 + 1 < w3.heap.size := (by omega); have hx3h0 : w3.cell? ⟨w.heap.size + 1 + 1, 0, none⟩ = some (.int .i64 (c)) := (by rw [(hb3.cell (by first | omega | (simp; done) | (simp; omega)))]; (repeat (rw [World.cell?_alloc_lt _ _ _ (by first | omega | (simp; done) | (simp; omega))])); go_cell); have hx3h1 : w3.cell? ⟨w.heap.size + 1 + 1, 1, none⟩ = some (.int .i64 (e)) := (by rw [(hb3.cell (by first | omega | (simp; done) | (simp; omega)))]; (repeat (rw [World.cell?_alloc_lt _ _ _ (by first | omega | (simp; done) | (simp; omega))])); go_cell)
      have hp3h0 : w3.frozen? ⟨w.heap.size + 1 + 1, 0, none⟩ = false := (by rw [(hb3.frozen (by first | omega | (simp; done) | (simp; omega)))]; first | (with_reducible assumption) | (go_simp; done) | (simp [*]; done)); have hp3h1 : w3.frozen? ⟨w.heap.size + 1 + 1, 1, none⟩ = false := (by rw [(hb3.frozen (by first | omega | (simp; done) | (simp; omega)))]; first | (with_reducible assumption) | (go_simp; done) | (simp [*]; done))
      go_wp2_with fail
      go_roundg (2 * M - b' - (e + U * b')).toNat
      case measure => omega
      case rel =>
        refine ⟨a', b', c + U * a', e + U * b', by omega, HR.out, by (repeat' (first | (with_reducible exact Below.refl _ _) | (with_reducible assumption) | (with_reducible refine Below.alloc ?_ ?_ _) | (with_reducible refine below_drewN ?_ _) | (with_reducible refine Below.drew ?_) | (with_reducible refine Below.setCell ?_ ?_ _) | go_size)), by simp; omega, ⟨by go_cell, by go_cell⟩, ⟨by go_cell, by go_cell⟩, ⟨by go_cell, by go_cell⟩, ⟨?_, ?_⟩, ?_, ?_⟩
        all_goals simp [*]
    · go_wp2_with fail
      go_region
      go_wp2_with fail
      refine ret_rat2 (b := w.heap.size + 1) (c := w.heap.size + 1 + 1) (x := .int .i64 a) (y := .int .i64 b) (z := .int .i64 c) (v := .int .i64 e) (by rfl) rfl rfl (by go_cell) (by go_cell) (by go_cell) (by go_cell) rfl ?_
      exact ⟨a, b, c, e, rfl, HN.out, by omega, by (repeat' (first | (with_reducible exact Below.refl _ _) | (with_reducible assumption) | (with_reducible refine Below.alloc ?_ ?_ _) | (with_reducible refine below_drewN ?_ _) | (with_reducible refine Below.drew ?_) | (with_reducible refine Below.setCell ?_ ?_ _) | go_size))⟩
end Go.Proofs.Ytfjcmmdfipppoaa
