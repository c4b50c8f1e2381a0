/- Contract: Read where it refuses. -/
import Derived.Test.YtfhkocpnealblaaGreatStPairs
import Derived.Test.YtfhkocpnealblaaGreatStTypes
namespace Go.Proofs.YtfhkocpnealblaaGreat
open Go.RowKit
set_option linter.unusedVariables false
set_option maxRecDepth 100000

set_option maxHeartbeats 1000000 in
theorem read_no (v : Value) (rs : List Int) (err : Int) (w : World) (hv : ArgAt w v rs)
    (HC1 : ∀ w', Touch (fun _ => False) w w' → w'.cell? ⟨w.heap.size, 0, none⟩ = some v → Calls Tryz.prog 117 #[.pointer (some ⟨w.heap.size, 0, none⟩)] w' fun e w'' => e = .panicked (flawC err) ∧ Touch (fun _ => False) w' w'') :
    Calls Tryz.prog 108 #[v] w fun e w' => e = .returned (.tuple #[.agg #[.int .u16 0, .int .u8 0, .int .u8 0, .int .u32 0, .int .u32 0, .int .i32 0, .int .u16 0, .int .u16 0, .slice none 0 0], .int .i64 0, .int .i64 err]) ∧ Touch (fun _ => False) w w' := by
  obtain ⟨va, vc, rfl, hm⟩ := hv.form
  have hmf : ∀ (fn : Fn) (first cap : Array Value) (w : World), (Instr.makeFunc fn first cap).run Tryz.prog w = .ok (.func fn first cap) w := fun _ _ _ _ => rfl
  have HC := HC1 ((((w.alloc (.cells #[.slice va rs.length vc] 39)).alloc (.cells #[.int .u16 0, .int .u8 0, .int .u8 0, .int .u32 0, .int .u32 0, .int .i32 0, .int .u16 0, .int .u16 0, .slice none 0 0] 84)).alloc (.cells #[.int .u16 0, .int .u8 0, .int .u8 0, .int .u32 0, .int .u32 0, .int .i32 0, .int .u16 0, .int .u16 0, .slice none 0 0] 84)).alloc (.cells #[.int .i64 0] 40)) (((((Touch.refl _ w).alloc _).alloc _).alloc _).alloc _) (by simp [go_sem])
  clear HC1 hv
  have HF := faceS_no 117 #[.pointer (some ⟨w.heap.size, 0, none⟩)] (fun _ => rfl) ((w.alloc (.cells #[.slice va rs.length vc] 39)).alloc (.cells #[.int .u16 0, .int .u8 0, .int .u8 0, .int .u32 0, .int .u32 0, .int .i32 0, .int .u16 0, .int .u16 0, .slice none 0 0] 84)) err HC
  clear HC
  go_enter Tryz.func108, Tryz.ntmps108
  go_wp2_with fail
  refine Calls.mono HF ?_
  rintro e w1 ⟨rfl, t1⟩
  clear HF hmf
  have R1 : Room w1 (w.heap.size + 1) 9 := by
    have := (Room.new (w.alloc (.cells #[.slice va rs.length vc] 39)) #[.int .u16 0, .int .u8 0, .int .u8 0, .int .u32 0, .int .u32 0, .int .i32 0, .int .u16 0, .int .u16 0, .slice none 0 0] 84).keep t1
    simpa using this
  obtain ⟨zz0, zc0, zf0⟩ := R1 0 (by omega)
  obtain ⟨zz1, zc1, zf1⟩ := R1 1 (by omega)
  obtain ⟨zz2, zc2, zf2⟩ := R1 2 (by omega)
  obtain ⟨zz3, zc3, zf3⟩ := R1 3 (by omega)
  obtain ⟨zz4, zc4, zf4⟩ := R1 4 (by omega)
  obtain ⟨zz5, zc5, zf5⟩ := R1 5 (by omega)
  obtain ⟨zz6, zc6, zf6⟩ := R1 6 (by omega)
  obtain ⟨zz7, zc7, zf7⟩ := R1 7 (by omega)
  obtain ⟨zz8, zc8, zf8⟩ := R1 8 (by omega)
  obtain ⟨w3, hw3⟩ : ∃ w3, w3 = (((((((((w1.setCell ⟨(w.heap.size + 1), 0, none⟩ (.int .u16 0)).setCell ⟨(w.heap.size + 1), 1, none⟩ (.int .u8 0)).setCell ⟨(w.heap.size + 1), 2, none⟩ (.int .u8 0)).setCell ⟨(w.heap.size + 1), 3, none⟩ (.int .u32 0)).setCell ⟨(w.heap.size + 1), 4, none⟩ (.int .u32 0)).setCell ⟨(w.heap.size + 1), 5, none⟩ (.int .i32 0)).setCell ⟨(w.heap.size + 1), 6, none⟩ (.int .u16 0)).setCell ⟨(w.heap.size + 1), 7, none⟩ (.int .u16 0)).setCell ⟨(w.heap.size + 1), 8, none⟩ (.slice none 0 0)) := ⟨_, rfl⟩
  have xd0 : w3.cell? ⟨w.heap.size + 1, 0, none⟩ = some (.int .u16 0) := by rw [hw3]; simp [zc0, go_sem]
  have xd1 : w3.cell? ⟨w.heap.size + 1, 1, none⟩ = some (.int .u8 0) := by rw [hw3]; simp [zc1, go_sem]
  have xd2 : w3.cell? ⟨w.heap.size + 1, 2, none⟩ = some (.int .u8 0) := by rw [hw3]; simp [zc2, go_sem]
  have xd3 : w3.cell? ⟨w.heap.size + 1, 3, none⟩ = some (.int .u32 0) := by rw [hw3]; simp [zc3, go_sem]
  have xd4 : w3.cell? ⟨w.heap.size + 1, 4, none⟩ = some (.int .u32 0) := by rw [hw3]; simp [zc4, go_sem]
  have xd5 : w3.cell? ⟨w.heap.size + 1, 5, none⟩ = some (.int .i32 0) := by rw [hw3]; simp [zc5, go_sem]
  have xd6 : w3.cell? ⟨w.heap.size + 1, 6, none⟩ = some (.int .u16 0) := by rw [hw3]; simp [zc6, go_sem]
  have xd7 : w3.cell? ⟨w.heap.size + 1, 7, none⟩ = some (.int .u16 0) := by rw [hw3]; simp [zc7, go_sem]
  have xd8 : w3.cell? ⟨w.heap.size + 1, 8, none⟩ = some (.slice none 0 0) := by rw [hw3]; simp [zc8, go_sem]
  have R3 : Hid (Room w3 (w.heap.size + 1) 9) := by show Room _ _ _; rw [hw3]; exact (((((((((R1.set 0 _).set 1 _).set 2 _).set 3 _).set 4 _).set 5 _).set 6 _).set 7 _).set 8 _)
  have U3 : Hid (Touch (fun k => k = w.heap.size + 1) w1 w3) := by show Touch _ _ _; rw [hw3]; refine Touch.setCell (F := fun k => k = w.heap.size + 1) (p := ⟨w.heap.size + 1, 8, none⟩) ?_ (Or.inl rfl) _; refine Touch.setCell (F := fun k => k = w.heap.size + 1) (p := ⟨w.heap.size + 1, 7, none⟩) ?_ (Or.inl rfl) _; refine Touch.setCell (F := fun k => k = w.heap.size + 1) (p := ⟨w.heap.size + 1, 6, none⟩) ?_ (Or.inl rfl) _; refine Touch.setCell (F := fun k => k = w.heap.size + 1) (p := ⟨w.heap.size + 1, 5, none⟩) ?_ (Or.inl rfl) _; refine Touch.setCell (F := fun k => k = w.heap.size + 1) (p := ⟨w.heap.size + 1, 4, none⟩) ?_ (Or.inl rfl) _; refine Touch.setCell (F := fun k => k = w.heap.size + 1) (p := ⟨w.heap.size + 1, 3, none⟩) ?_ (Or.inl rfl) _; refine Touch.setCell (F := fun k => k = w.heap.size + 1) (p := ⟨w.heap.size + 1, 2, none⟩) ?_ (Or.inl rfl) _; refine Touch.setCell (F := fun k => k = w.heap.size + 1) (p := ⟨w.heap.size + 1, 1, none⟩) ?_ (Or.inl rfl) _; refine Touch.setCell (F := fun k => k = w.heap.size + 1) (p := ⟨w.heap.size + 1, 0, none⟩) ?_ (Or.inl rfl) _; exact Touch.refl _ _
  have HT1 : Hid (Touch (fun _ => False) ((w.alloc (.cells #[.slice va rs.length vc] 39)).alloc (.cells #[.int .u16 0, .int .u8 0, .int .u8 0, .int .u32 0, .int .u32 0, .int .i32 0, .int .u16 0, .int .u16 0, .slice none 0 0] 84)) w1) := t1
  have HW3 : Hid (w3 = (((((((((w1.setCell ⟨(w.heap.size + 1), 0, none⟩ (.int .u16 0)).setCell ⟨(w.heap.size + 1), 1, none⟩ (.int .u8 0)).setCell ⟨(w.heap.size + 1), 2, none⟩ (.int .u8 0)).setCell ⟨(w.heap.size + 1), 3, none⟩ (.int .u32 0)).setCell ⟨(w.heap.size + 1), 4, none⟩ (.int .u32 0)).setCell ⟨(w.heap.size + 1), 5, none⟩ (.int .i32 0)).setCell ⟨(w.heap.size + 1), 6, none⟩ (.int .u16 0)).setCell ⟨(w.heap.size + 1), 7, none⟩ (.int .u16 0)).setCell ⟨(w.heap.size + 1), 8, none⟩ (.slice none 0 0))) := hw3
  clear hw3 t1 R1
  go_upto_region 2 with fail
  rw [← HW3.out]
  clear HW3 zc0 zf0 zc1 zf1 zc2 zf2 zc3 zf3 zc4 zf4 zc5 zf5 zc6 zf6 zc7 zf7 zc8 zf8
  have HTA : Hid (Touch (fun _ => False) w ((w.alloc (.cells #[.slice va rs.length vc] 39)).alloc (.cells #[.int .u16 0, .int .u8 0, .int .u8 0, .int .u32 0, .int .u32 0, .int .i32 0, .int .u16 0, .int .u16 0, .slice none 0 0] 84))) := ((Touch.refl _ w).alloc _).alloc _
  generalize hg : w.heap.size + 1 = g at *
  have HG : Hid (w.heap.size + 1 = g) := hg
  clear hg
  obtain ⟨zz0, zc0, zf0⟩ := R3.out 0 (by omega)
  obtain ⟨zz1, zc1, zf1⟩ := R3.out 1 (by omega)
  obtain ⟨zz2, zc2, zf2⟩ := R3.out 2 (by omega)
  obtain ⟨zz3, zc3, zf3⟩ := R3.out 3 (by omega)
  obtain ⟨zz4, zc4, zf4⟩ := R3.out 4 (by omega)
  obtain ⟨zz5, zc5, zf5⟩ := R3.out 5 (by omega)
  obtain ⟨zz6, zc6, zf6⟩ := R3.out 6 (by omega)
  obtain ⟨zz7, zc7, zf7⟩ := R3.out 7 (by omega)
  obtain ⟨zz8, zc8, zf8⟩ := R3.out 8 (by omega)
  obtain ⟨wz, hwz⟩ : ∃ wz, wz = (((((((((w3.setCell ⟨g, 0, none⟩ (.int .u16 0)).setCell ⟨g, 1, none⟩ (.int .u8 0)).setCell ⟨g, 2, none⟩ (.int .u8 0)).setCell ⟨g, 3, none⟩ (.int .u32 0)).setCell ⟨g, 4, none⟩ (.int .u32 0)).setCell ⟨g, 5, none⟩ (.int .i32 0)).setCell ⟨g, 6, none⟩ (.int .u16 0)).setCell ⟨g, 7, none⟩ (.int .u16 0)).setCell ⟨g, 8, none⟩ (.slice none 0 0)) := ⟨_, rfl⟩
  have zd0 : wz.cell? ⟨g, 0, none⟩ = some (.int .u16 0) := by rw [hwz]; simp [zc0, go_sem]
  have zd1 : wz.cell? ⟨g, 1, none⟩ = some (.int .u8 0) := by rw [hwz]; simp [zc1, go_sem]
  have zd2 : wz.cell? ⟨g, 2, none⟩ = some (.int .u8 0) := by rw [hwz]; simp [zc2, go_sem]
  have zd3 : wz.cell? ⟨g, 3, none⟩ = some (.int .u32 0) := by rw [hwz]; simp [zc3, go_sem]
  have zd4 : wz.cell? ⟨g, 4, none⟩ = some (.int .u32 0) := by rw [hwz]; simp [zc4, go_sem]
  have zd5 : wz.cell? ⟨g, 5, none⟩ = some (.int .i32 0) := by rw [hwz]; simp [zc5, go_sem]
  have zd6 : wz.cell? ⟨g, 6, none⟩ = some (.int .u16 0) := by rw [hwz]; simp [zc6, go_sem]
  have zd7 : wz.cell? ⟨g, 7, none⟩ = some (.int .u16 0) := by rw [hwz]; simp [zc7, go_sem]
  have zd8 : wz.cell? ⟨g, 8, none⟩ = some (.slice none 0 0) := by rw [hwz]; simp [zc8, go_sem]
  have HUz : Hid (Touch (fun k => k = g) w3 wz) := by show Touch _ _ _; rw [hwz]; refine Touch.setCell (F := fun k => k = g) (p := ⟨g, 8, none⟩) ?_ (Or.inl rfl) _; refine Touch.setCell (F := fun k => k = g) (p := ⟨g, 7, none⟩) ?_ (Or.inl rfl) _; refine Touch.setCell (F := fun k => k = g) (p := ⟨g, 6, none⟩) ?_ (Or.inl rfl) _; refine Touch.setCell (F := fun k => k = g) (p := ⟨g, 5, none⟩) ?_ (Or.inl rfl) _; refine Touch.setCell (F := fun k => k = g) (p := ⟨g, 4, none⟩) ?_ (Or.inl rfl) _; refine Touch.setCell (F := fun k => k = g) (p := ⟨g, 3, none⟩) ?_ (Or.inl rfl) _; refine Touch.setCell (F := fun k => k = g) (p := ⟨g, 2, none⟩) ?_ (Or.inl rfl) _; refine Touch.setCell (F := fun k => k = g) (p := ⟨g, 1, none⟩) ?_ (Or.inl rfl) _; refine Touch.setCell (F := fun k => k = g) (p := ⟨g, 0, none⟩) ?_ (Or.inl rfl) _; exact Touch.refl _ _
  have HWz : Hid (wz = (((((((((w3.setCell ⟨g, 0, none⟩ (.int .u16 0)).setCell ⟨g, 1, none⟩ (.int .u8 0)).setCell ⟨g, 2, none⟩ (.int .u8 0)).setCell ⟨g, 3, none⟩ (.int .u32 0)).setCell ⟨g, 4, none⟩ (.int .u32 0)).setCell ⟨g, 5, none⟩ (.int .i32 0)).setCell ⟨g, 6, none⟩ (.int .u16 0)).setCell ⟨g, 7, none⟩ (.int .u16 0)).setCell ⟨g, 8, none⟩ (.slice none 0 0))) := hwz
  clear hwz
  go_wp2_with fail
  rw [← HWz.out]
  clear HWz zc0 zf0 zc1 zf1 zc2 zf2 zc3 zf3 zc4 zf4 zc5 zf5 zc6 zf6 zc7 zf7 zc8 zf8
  refine bodyPost_ret (v := .tuple #[.agg #[.int .u16 0, .int .u8 0, .int .u8 0, .int .u32 0, .int .u32 0, .int .i32 0, .int .u16 0, .int .u16 0, .slice none 0 0], .int .i64 0, .int .i64 err]) (by simp [results, Tryz.results108, go_sem, zd0, zd1, zd2, zd3, zd4, zd5, zd6, zd7, zd8]) rfl ?_
  refine ⟨rfl, ?_⟩
  exact ((HTA.out.trans HT1.out).trans' U3.out (fun i hi e => by have := HG.out; omega)).trans' HUz.out (fun i hi e => by have := HG.out; omega)
/-- What Read tells of bytes that it refuses. -/
def readE (rs : List Int) : Int := if rs.length < 20 then 10 else if (rdHead (rs.take 20)).len < 20 then 22 else if (rs.length : Int) < (rdHead (rs.take 20)).len then 10 else 0
theorem read_bad (v : Value) (rs : List Int) (w : World) (hv : ArgAt w v rs) (hby : ∀ z ∈ rs, 0 ≤ z ∧ z < 256) (hl2 : rs.length ≤ 1099511627776) (he : readE rs ≠ 0) :
    Calls Tryz.prog 108 #[v] w fun e w' => e = .returned (.tuple #[.agg #[.int .u16 0, .int .u8 0, .int .u8 0, .int .u32 0, .int .u32 0, .int .i32 0, .int .u16 0, .int .u16 0, .slice none 0 0], .int .i64 0, .int .i64 (readE rs)]) ∧ Touch (fun _ => False) w w' := by
  by_cases h1 : rs.length < 20
  · have e : readE rs = 10 := by simp [readE, h1]
    rw [e]
    exact read_no v rs 10 w hv (fun w' t hc => read1_short _ v rs w' hc (hv.keepN t) hby h1)
  · by_cases h2 : (rdHead (rs.take 20)).len < 20
    · have e : readE rs = 22 := by simp [readE, h1, h2]
      rw [e]
      exact read_no v rs 22 w hv (fun w' t hc => read1_low _ v rs w' hc (hv.keepN t) hby (by omega) hl2 h2)
    · by_cases h3 : (rs.length : Int) < (rdHead (rs.take 20)).len
      · have e : readE rs = 10 := by simp [readE, h1, h2, h3]
        rw [e]
        exact read_no v rs 10 w hv (fun w' t hc => read1_miss _ v rs w' hc (hv.keepN t) hby (by omega) hl2 (by omega) h3)
      · simp [readE, h1, h2, h3] at he
end Go.Proofs.YtfhkocpnealblaaGreat

namespace Go.Proofs.YtfhkocpnealblaaGreat
open Go.RowKit
set_option linter.unusedVariables false
set_option maxRecDepth 100000

theorem list20 {l : List Int} (h : l.length = 20) : ∃ a b c d e f g i j k m n o p q r s t u v, l = [a, b, c, d, e, f, g, i, j, k, m, n, o, p, q, r, s, t, u, v] := by
  match l, h with
  | [a, b, c, d, e, f, g, i, j, k, m, n, o, p, q, r, s, t, u, v], _ => exact ⟨a, b, c, d, e, f, g, i, j, k, m, n, o, p, q, r, s, t, u, v, rfl⟩
theorem wrap32_mod {x : Int} (h0 : 0 ≤ x) (h1 : x < 4294967296) : IntKind.i32.wrap x % 4294967296 = x := by
  simp [IntKind.wrap, IntKind.bits, IntKind.signed]
  omega
theorem headB_rdHead {l : List Int} (hl : l.length = 20) (hb : ∀ z ∈ l, 0 ≤ z ∧ z < 256) : headB (rdHead l) = l := by
  obtain ⟨a, b, c, d, e, f, g, i, j, k, m, n, o, p, q, r, s, t, u, v, rfl⟩ := list20 hl
  simp only [List.mem_cons, List.not_mem_nil, or_false, forall_eq_or_imp, forall_eq] at hb
  obtain ⟨ha, hb, hc, hd, he, hf, hg, hi, hj, hk, hm, hn, ho, hp, hq, hr, hs, ht, hu, hv⟩ := hb
  have e1 : rdHead [a, b, c, d, e, f, g, i, j, k, m, n, o, p, q, r, s, t, u, v] = ⟨numOf [a, b], c, d, numOf [e, f, g, i], numOf [j, k, m, n], IntKind.i32.wrap (numOf [o, p, q, r]), numOf [s, t], numOf [u, v]⟩ := by
    simp [rdHead, numAt, nextAt, numOf1]
  have hw := four_ok ho hp hq hr
  rw [e1]
  unfold headB
  dsimp only
  rw [wrap32_mod hw.1 hw.2, numBytes_two a b ha hb, numBytes_four e f g i he hf hg hi, numBytes_four j k m n hj hk hm hn, numBytes_four o p q r ho hp hq hr, numBytes_two s t hs ht, numBytes_two u v hu hv]
  rfl
theorem rdHead_all {l : List Int} (hb : ∀ z ∈ l, 0 ≤ z ∧ z < 256) : (rdHead l).All := by
  have b1 : ∀ q, 0 ≤ numAt l q 1 ∧ numAt l q 1 < 256 := fun q => by have := numAt_bound hb q 1; omega
  have b2 : ∀ q, 0 ≤ numAt l q 2 ∧ numAt l q 2 < 65536 := fun q => by have := numAt_bound hb q 2; omega
  have b4 : ∀ q, 0 ≤ numAt l q 4 ∧ numAt l q 4 < 4294967296 := fun q => by have := numAt_bound hb q 4; omega
  have b5 : ∀ x : Int, -2147483648 ≤ IntKind.i32.wrap x ∧ IntKind.i32.wrap x ≤ 2147483647 := fun x => by simp [IntKind.wrap, IntKind.bits, IntKind.signed]; omega
  unfold rdHead
  constructor
  · dsimp only; exact b2 _
  · dsimp only; exact b1 _
  · dsimp only; exact b1 _
  · dsimp only; exact b4 _
  · dsimp only; exact b4 _
  · dsimp only; exact b5 _
  · dsimp only; exact b2 _
  · dsimp only; exact b2 _
structure Right (h : HV) (rs : List Int) : Prop where
  len : h.len = 20 + (rs.length : Int)
  sum : h.sum ≠ 0
  whole : whole ((headB h ++ rs).drop 2) = true
  known : knownB h.typ = true
  seq : h.seq ≠ -2147483648
  age : bits BinOp.andNot .u16 h.age 32768 ≤ 3600
  dec : decB h.typ rs ≠ none
theorem right_of {h : HV} {rs : List Int} (e : chkE h rs = 0) : Right h rs := by
  unfold chkE at e
  split at e
  · omega
  · rename_i h1
    split at e
    · omega
    · rename_i h2
      split at e
      · omega
      · rename_i h3
        split at e
        · omega
        · rename_i h4
          split at e
          · omega
          · rename_i h5
            refine ⟨by omega, fun q => h2 (Or.inl q), ?_, by simpa using h3, fun q => h4 (Or.inl q), ?_, h5⟩
            · cases hw : YtfhkocpnealblaaGreat.whole ((headB h ++ rs).drop 2) with
              | true => rfl
              | false => exact absurd (Or.inr hw) h2
            · exact Classical.byContradiction (fun q => h4 (Or.inr q))
theorem right_chk {h : HV} {rs : List Int} (r : Right h rs) : chkE h rs = 0 := by
  unfold chkE
  rw [if_neg (by have := r.len; omega), if_neg (by rintro (q | q); exact r.sum q; rw [r.whole] at q; cases q), if_neg (by rw [r.known]; decide), if_neg (by rintro (q | q); exact r.seq q; exact q r.age), if_neg r.dec]
theorem readE_zero {rs : List Int} (e : readE rs = 0) : 20 ≤ rs.length ∧ 20 ≤ (rdHead (rs.take 20)).len ∧ (rdHead (rs.take 20)).len ≤ (rs.length : Int) := by
  unfold readE at e
  split at e
  · omega
  · split at e
    · omega
    · split at e
      · omega
      · omega
theorem guards_pure {h : HV} {rs : List Int} (hc : chkE h rs = 0) (ok : h.All) (hb : ∀ z ∈ rs, 0 ≤ z ∧ z < 256) {k : Nat} (h2 : 2 ≤ k) (hk : k < 20 + rs.length) {tb : Int} (ht : 0 ≤ tb ∧ tb < 256) (hne : (headB h ++ rs).getD k 0 % 255 ≠ tb % 255)
    (hr : readE ((headB h ++ rs).set k tb) = 0) (hl : (rdHead (((headB h ++ rs).set k tb).take 20)).len = 20 + (rs.length : Int)) :
    chkE (rdHead (((headB h ++ rs).set k tb).take 20)) ((((headB h ++ rs).set k tb).drop 20).take ((rdHead (((headB h ++ rs).set k tb).take 20)).len.toNat - 20)) ≠ 0 := by
  have R := right_of hc
  have hll : (headB h ++ rs).length = 20 + rs.length := by rw [List.length_append, length_headB]
  have hby : ∀ z ∈ headB h ++ rs, 0 ≤ z ∧ z < 256 := fun z hz => by
    rcases List.mem_append.1 hz with h' | h'
    · exact headB_byte ok z h'
    · exact hb z h'
  have W := R.whole
  generalize headB h ++ rs = L at *
  intro e
  have R' := right_of e
  have W' := R'.whole
  have hbs : ∀ z ∈ L.set k tb, 0 ≤ z ∧ z < 256 := fun z hz => by
    rcases List.mem_or_eq_of_mem_set hz with h' | rfl
    · exact hby z h'
    · exact ht
  have hls : (L.set k tb).length = 20 + rs.length := by rw [List.length_set, hll]
  rw [headB_rdHead (by rw [List.length_take, hls]; omega) (fun z hz => hbs z (List.mem_of_mem_take hz)), hl] at W'
  rw [List.take_of_length_le (i := (20 + (rs.length : Int)).toNat - 20) (by rw [List.length_drop, hls]; omega), List.take_append_drop] at W'
  have hd : (L.set k tb).drop 2 = (L.drop 2).set (k - 2) tb := by
    rw [List.drop_set]
    rw [if_neg (by omega)]
  rw [hd, whole_set _ _ _ (by rw [List.length_drop, hll]; omega) W, decide_eq_true_iff] at W'
  apply hne
  rw [← W']
  congr 1
  rw [List.getD_eq_getElem?_getD, List.getD_eq_getElem?_getD, List.getElem?_drop, show 2 + (k - 2) = k by omega]
end Go.Proofs.YtfhkocpnealblaaGreat
