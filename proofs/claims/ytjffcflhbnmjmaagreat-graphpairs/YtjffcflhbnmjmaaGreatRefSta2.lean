/- Package graph: Find. -/
import Derived.Test.YtjffcflhbnmjmaaGreatGrBld
import Derived.Test.YtjffcflhbnmjmaaGreatStRd
import Derived.Test.YtjffcflhbnmjmaaGreatStaMath
import Derived.Test.YtjffcflhbnmjmaaGreatStFace
namespace Go.Proofs.YtjffcflhbnmjmaaGreat
open Go.RowKit
set_option linter.unusedVariables false
set_option maxRecDepth 100000

/-- The number of the first node of that kind with that ID, or less than nought. -/
def findI (G : List NV) (b : Bool) (i : Int) : Int :=
  match G with
  | [] => -1
  | n :: r => if n.net == b && n.id == i then 0 else (if findI r b i < 0 then -1 else findI r b i + 1)
theorem findI_hit {G : List NV} {b : Bool} {i : Int} {k : Nat} {n : NV} (hk : G[k]? = some n) (hn : (n.net == b && n.id == i) = true) (ha : ∀ j m, j < k → G[j]? = some m → (m.net == b && m.id == i) = false) : findI G b i = k := by
  induction G generalizing k with
  | nil => simp at hk
  | cons x r ih =>
    cases k with
    | zero =>
      obtain rfl : x = n := by simpa using hk
      unfold findI
      rw [if_pos hn]
      rfl
    | succ k =>
      have h0 := ha 0 x (by omega) rfl
      have := ih (k := k) (by simpa using hk) (fun j m hj hm => ha (j + 1) m (by omega) (by simpa using hm))
      unfold findI
      rw [h0, this, if_neg (by simp), if_neg (by omega)]
      omega
theorem findI_miss {G : List NV} {b : Bool} {i : Int} (ha : ∀ m ∈ G, (m.net == b && m.id == i) = false) : findI G b i = -1 := by
  induction G with
  | nil => rfl
  | cons x r ih =>
    have := ih (fun m hm => ha m (by simp [hm]))
    unfold findI
    rw [ha x (by simp), this]
    rfl
/-- A row of nodes in memory, as far as it is looked at. -/
theorem nodes_one {w : World} {v : Value} {D : List ND} (h : ValsAt w 7 v D.length (nodeC D)) {j : Nat} {d : ND} (hj : D[j]? = some d) : ∃ g off c, v = .slice (some ⟨g, off, none⟩) D.length c ∧ ∀ i u, d.cells[i]? = some u → w.cell? ⟨g, off + (j * 7 + i), none⟩ = some u := by
  have hlt := (List.getElem?_eq_some_iff.mp hj).1
  obtain ⟨g, off, c, e, _, _, hc⟩ := ValsAt.cells h (by omega) (by omega)
  refine ⟨g, off, c, e, fun i u hu => hc _ _ ?_⟩
  have hi : i < 7 := (List.getElem?_eq_some_iff.mp hu).1
  rw [nodeC_at D j i d hj hi]
  exact hu
set_option maxHeartbeats 1000000 in
theorem fnd1_any (d : ND) (ea : Option Addr) (en ec : Nat) (sa : Option Addr) (sn sc : Nat) (he : d.ve = .slice ea en ec) (hs : d.vs = .slice sa sn sc) (b1 b2 : Nat) (b : Bool) (i : Int) (w : World) (c1 : w.cell? ⟨b1, 0, none⟩ = some (.bool b)) (c2 : w.cell? ⟨b2, 0, none⟩ = some (.int .u32 i)) :
    Calls Tryz.prog 37 #[.agg #[.bool d.n.net, .int .u32 d.n.id, .int .u32 d.n.addr, .int .u8 d.n.bits, .int .u8 d.n.flags, .slice ea en ec, .slice sa sn sc], .pointer (some ⟨b1, 0, none⟩), .pointer (some ⟨b2, 0, none⟩)] w fun e w' => e = .returned (.bool (d.n.net == b && d.n.id == i)) ∧ Touch (fun _ => False) w w' := by
  have l1 := lt_of_cell c1
  have l2 := lt_of_cell c2
  cases hb : (d.n.net == b) with
  | true =>
    rw [Bool.true_and]
    go_enter Tryz.func37, Tryz.ntmps37
    go_wp2
    go_ret
    exact ⟨ret_bool rfl, (Touch.refl _ _).alloc _⟩
  | false =>
    rw [Bool.false_and]
    go_enter Tryz.func37, Tryz.ntmps37
    go_wp2
    go_ret
    exact ⟨ret_bool rfl, (Touch.refl _ _).alloc _⟩
theorem ND.Ok.forms {base : Nat} {w : World} {d : ND} (h : d.Ok base w) : ∃ ea ec sa sc, d.ve = .slice ea d.n.edges.length ec ∧ d.vs = .slice sa d.n.stubs.length sc := by
  obtain ⟨ea, ec, e1⟩ := own_fm h.e
  obtain ⟨sa, sc, e2⟩ := own_fm h.s
  exact ⟨ea, ec, sa, sc, e1, e2⟩
set_option maxHeartbeats 2000000 in
theorem fndx_any (v : Value) (D : List ND) (b1 b2 : Nat) (b : Bool) (i : Int) (w : World) (hv : ValsAt w 7 v D.length (nodeC D)) (hk : ∀ d ∈ D, d.Ok 0 w) (hn : D.length ≤ 1000000) (c1 : w.cell? ⟨b1, 0, none⟩ = some (.bool b)) (c2 : w.cell? ⟨b2, 0, none⟩ = some (.int .u32 i)) :
    Calls Tryz.prog 36 #[v, .func (.func 37) #[] #[.pointer (some ⟨b1, 0, none⟩), .pointer (some ⟨b2, 0, none⟩)]] w fun e w' => e = .returned (.int .i64 (findI (D.map ND.n) b i)) ∧ Touch (fun _ => False) w w' := by
  obtain ⟨va, vc, rfl, -⟩ := ValsAt.form hv
  have HV : Hid (ValsAt w 7 (.slice va D.length vc) D.length (nodeC D)) := hv
  have HK : Hid (∀ d ∈ D, d.Ok 0 w) := hk
  have HC : Hid (w.cell? ⟨b1, 0, none⟩ = some (.bool b) ∧ w.cell? ⟨b2, 0, none⟩ = some (.int .u32 i)) := ⟨c1, c2⟩
  have hn' : (D.length : Int) ≤ 1000000 := by omega
  have HI : Hid (∀ (k : Nat) (n : NV), (D.map ND.n)[k]? = some n → (n.net == b && n.id == i) = true → (∀ (j : Nat) (m : NV), j < k → (D.map ND.n)[j]? = some m → (m.net == b && m.id == i) = false) → findI (D.map ND.n) b i = k) := fun k n h1 h2 h3 => findI_hit h1 h2 h3
  have HM : Hid ((∀ m ∈ D.map ND.n, (m.net == b && m.id == i) = false) → findI (D.map ND.n) b i = -1) := findI_miss
  clear hv hk c1 c2
  generalize findI (D.map ND.n) b i = z at *
  go_enter Tryz.func36, Tryz.ntmps36
  go_wp2
  go_loopg [5, 8] D.length (fun gg _ s8 wr => ∃ kk : Nat, kk ≤ D.length ∧ D.length - kk ≤ gg ∧ s8 = .int .i64 kk ∧ Hid (∀ (j : Nat) (m : NV), j < kk → (D.map ND.n)[j]? = some m → (m.net == b && m.id == i) = false) ∧ Touch (fun _ => False) w wr)
  case atStart => exact ⟨0, Nat.zero_le _, by omega, rfl, fun j m hj => absurd hj (by omega), Touch.refl _ _⟩
  case round =>
    obtain ⟨kk, hkk, hg, rfl, HA, t⟩ := hrel
    have HT : Hid (Touch (fun _ => False) w wr) := t
    rcases Nat.lt_or_ge kk D.length with h | h
    · have hlt : (kk : Int) < (D.length : Int) := by omega
      obtain ⟨d, hd⟩ : ∃ d, D[kk]? = some d := ⟨D[kk], by simp [h]⟩
      obtain ⟨g, off, c, eg, hc⟩ := nodes_one (ValsAt.keep HV.out t) hd
      simp only [Value.slice.injEq] at eg
      obtain ⟨rfl, -, rfl⟩ := eg
      obtain ⟨ea, ec, sa, sc, e1, e2⟩ := (HK.out d (List.mem_of_getElem? hd)).forms
      have z0 : wr.cell? ⟨g, off + kk * 7, none⟩ = some (.bool d.n.net) := hc 0 _ rfl
      have z1 : wr.cell? ⟨g, off + kk * 7 + 1, none⟩ = some (.int .u32 d.n.id) := by rw [Nat.add_assoc]; exact hc 1 _ rfl
      have z2 : wr.cell? ⟨g, off + kk * 7 + 2, none⟩ = some (.int .u32 d.n.addr) := by rw [Nat.add_assoc]; exact hc 2 _ rfl
      have z3 : wr.cell? ⟨g, off + kk * 7 + 3, none⟩ = some (.int .u8 d.n.bits) := by rw [Nat.add_assoc]; exact hc 3 _ rfl
      have z4 : wr.cell? ⟨g, off + kk * 7 + 4, none⟩ = some (.int .u8 d.n.flags) := by rw [Nat.add_assoc]; exact hc 4 _ rfl
      have z5 : wr.cell? ⟨g, off + kk * 7 + 5, none⟩ = some (.slice ea d.n.edges.length ec) := by rw [← e1, Nat.add_assoc]; exact hc 5 _ rfl
      have z6 : wr.cell? ⟨g, off + kk * 7 + 6, none⟩ = some (.slice sa d.n.stubs.length sc) := by rw [← e2, Nat.add_assoc]; exact hc 6 _ rfl
      have HF := fnd1_any d ea d.n.edges.length ec sa d.n.stubs.length sc e1 e2 b1 b2 b i wr (t.cellN HC.out.1) (t.cellN HC.out.2)
      have hmd : (D.map ND.n)[kk]? = some d.n := by rw [List.getElem?_map, hd]; rfl
      cases hb : (d.n.net == b && d.n.id == i) with
      | false =>
        rw [hb] at HF
        have HN : Hid (∀ (j : Nat) (m : NV), j < kk + 1 → (D.map ND.n)[j]? = some m → (m.net == b && m.id == i) = false) := fun j m hj hm => by
          rcases Nat.lt_or_ge j kk with h' | h'
          · exact HA.out j m h' hm
          · obtain rfl : j = kk := by omega
            rw [hmd] at hm
            cases hm
            exact hb
        clear t hd hmd HA HV HK HI HM hc e1 e2 hb
        go_wp2_with fail
        refine HF.mono ?_
        rintro e w1 ⟨rfl, t1⟩
        have T1 : Hid _ := t1
        clear t1 HF z0 z1 z2 z3 z4 z5 z6
        go_wp2
        go_roundg (D.length - (kk + 1))
        case measure => omega
        case rel => exact ⟨kk + 1, by omega, by omega, by go_num, HN, HT.out.trans T1.out⟩
      | true =>
        rw [hb] at HF
        have HZ : Hid (z = kk) := HI.out kk d.n hmd hb HA.out
        clear t hd hmd HA HV HK HI HM hc e1 e2 hb
        go_wp2_with fail
        refine HF.mono ?_
        rintro e w1 ⟨rfl, t1⟩
        have T1 : Hid _ := t1
        clear t1 HF z0 z1 z2 z3 z4 z5 z6
        go_wp2
        go_ret
        exact ⟨ret_int HZ.out.symm, HT.out.trans T1.out⟩
    · have hlt : ¬ (kk : Int) < (D.length : Int) := by omega
      have HZ : Hid (z = -1) := HM.out (fun m hm => by
        obtain ⟨j, hj⟩ := List.mem_iff_getElem?.1 hm
        exact HA.out j m (by have := (List.getElem?_eq_some_iff.1 hj).1; simp at this; omega) hj)
      clear t HA HV HK HI HM
      go_wp2
      go_ret
      exact ⟨ret_int HZ.out.symm, HT.out⟩
set_option maxHeartbeats 1000000 in
theorem find_any (v : Value) (D : List ND) (b : Bool) (i : Int) (w : World) (hv : ValsAt w 7 v D.length (nodeC D)) (hk : ∀ d ∈ D, d.Ok 0 w) (hn : D.length ≤ 1000000) :
    Calls Tryz.prog 13 #[v, .bool b, .int .u32 i] w fun e w' => e = .returned (.int .i64 (findI (D.map ND.n) b i)) ∧ Touch (fun _ => False) w w' := by
  have T0 : Touch (fun _ => False) w ((w.alloc (.cells #[.bool b] 4)).alloc (.cells #[.int .u32 i] 23)) := ((Touch.refl _ _).alloc _).alloc _
  have HF := fndx_any v D w.heap.size (w.heap.size + 1) b i _ (ValsAt.keep hv T0) (fun d hd => (hk d hd).touch T0 (fun _ _ h => h)) hn (by simp [go_sem]) (by simp [go_sem])
  have HT : Hid _ := T0
  obtain ⟨va, vc, rfl, -⟩ := ValsAt.form hv
  clear hv hk T0
  generalize findI (D.map ND.n) b i = z at *
  generalize D.length = n at *
  go_enter Tryz.func13, Tryz.ntmps13
  go_wp2_with fail
  refine HF.mono ?_
  rintro e w1 ⟨rfl, t1⟩
  have T1 : Hid _ := t1
  clear t1 HF
  go_wp2
  go_ret
  exact ⟨rfl, HT.out.trans T1.out⟩
end Go.Proofs.YtjffcflhbnmjmaaGreat

namespace Go.Proofs.YtjffcflhbnmjmaaGreat
open Go.RowKit
set_option linter.unusedVariables false
set_option maxRecDepth 100000

theorem four2_any (x : Int) (w : World) (hx0 : 0 ≤ x) (hx : x < 4294967296) :
    Calls Tryz.prog 111 #[.int .u32 x, .int .i64 2] w fun e w' => ∃ v, e = .returned v ∧ Buf w w' v (numBytes 2 x) := by
  go_enter Tryz.func111, Tryz.ntmps111
  go_wp2
  go_loopw [5, 6] (fun l i wr => ∃ k : Nat, k ≤ 2 ∧ i = .int .i64 (1 - k) ∧ Buf w wr l ((numBytes 2 x).take k)) (fun _ i _ => (intOf i + 1).toNat)
  case atStart => exact ⟨0, Nat.zero_le _, by simp, Buf.nil (Touch.refl _ _)⟩
  case round =>
    obtain ⟨k, hk, rfl, hf⟩ := hrel
    rcases (by omega : k = 0 ∨ k = 1 ∨ k = 2) with rfl | rfl | rfl
    · obtain ⟨la, lc, rfl⟩ := hf.form
      have HF : Hid (Buf w wr _ ((numBytes 2 x).take 0)) := hf
      clear hf
      go_wp2_with (at_builtin; refine app_one rfl (.tmp 13) (.tmp 19) rfl w _ _ rfl HF.out (x / 256 % 256) rfl (by simp [numBytes]) ?_)
      intro v' w1 hb
      have HN : Hid (Buf w w1 v' ((numBytes 2 x).take 1)) := by
        show Buf _ _ _ _
        have e : (numBytes 2 x).take 0 ++ [x / 256 % 256] = (numBytes 2 x).take 1 := by simp [numBytes]
        rw [← e]; exact hb
      clear hb HF
      go_wp2
      go_roundw
      case rel => exact ⟨1, by omega, by simp, HN.out⟩
      case measure => simp [intOf]
    · obtain ⟨la, lc, rfl⟩ := hf.form
      have HF : Hid (Buf w wr _ ((numBytes 2 x).take 1)) := hf
      clear hf
      go_wp2_with (at_builtin; refine app_one rfl (.tmp 13) (.tmp 19) rfl w _ _ rfl HF.out (x % 256) rfl (by simp [numBytes]) ?_)
      intro v' w1 hb
      have HN : Hid (Buf w w1 v' ((numBytes 2 x).take 2)) := by
        show Buf _ _ _ _
        have e : (numBytes 2 x).take 1 ++ [x % 256] = (numBytes 2 x).take 2 := by simp [numBytes]
        rw [← e]; exact hb
      clear hb HF
      go_wp2
      go_roundw
      case rel => exact ⟨2, by omega, by simp, HN.out⟩
      case measure => simp [intOf]
    · have HF : Hid (Buf w wr _ (numBytes 2 x)) := hf
      go_wp2
      go_ret
      exact ⟨_, rfl, HF.out⟩
theorem four4_any (x : Int) (w : World) (hx0 : 0 ≤ x) (hx : x < 4294967296) :
    Calls Tryz.prog 111 #[.int .u32 x, .int .i64 4] w fun e w' => ∃ v, e = .returned v ∧ Buf w w' v (numBytes 4 x) := by
  go_enter Tryz.func111, Tryz.ntmps111
  go_wp2
  go_loopw [5, 6] (fun l i wr => ∃ k : Nat, k ≤ 4 ∧ i = .int .i64 (3 - k) ∧ Buf w wr l ((numBytes 4 x).take k)) (fun _ i _ => (intOf i + 1).toNat)
  case atStart => exact ⟨0, Nat.zero_le _, by simp, Buf.nil (Touch.refl _ _)⟩
  case round =>
    obtain ⟨k, hk, rfl, hf⟩ := hrel
    rcases (by omega : k = 0 ∨ k = 1 ∨ k = 2 ∨ k = 3 ∨ k = 4) with rfl | rfl | rfl | rfl | rfl
    · obtain ⟨la, lc, rfl⟩ := hf.form
      have HF : Hid (Buf w wr _ ((numBytes 4 x).take 0)) := hf
      clear hf
      go_wp2_with (at_builtin; refine app_one rfl (.tmp 13) (.tmp 19) rfl w _ _ rfl HF.out (x / 16777216) rfl (by simp [numBytes]) ?_)
      intro v' w1 hb
      have HN : Hid (Buf w w1 v' ((numBytes 4 x).take 1)) := by
        show Buf _ _ _ _
        have e : (numBytes 4 x).take 0 ++ [x / 16777216] = (numBytes 4 x).take 1 := by simp [numBytes]; omega
        rw [← e]; exact hb
      clear hb HF
      go_wp2
      go_roundw
      case rel => exact ⟨1, by omega, by simp, HN.out⟩
      case measure => simp [intOf]
    · obtain ⟨la, lc, rfl⟩ := hf.form
      have HF : Hid (Buf w wr _ ((numBytes 4 x).take 1)) := hf
      clear hf
      go_wp2_with (at_builtin; refine app_one rfl (.tmp 13) (.tmp 19) rfl w _ _ rfl HF.out (x / 65536 % 256) rfl (by simp [numBytes]) ?_)
      intro v' w1 hb
      have HN : Hid (Buf w w1 v' ((numBytes 4 x).take 2)) := by
        show Buf _ _ _ _
        have e : (numBytes 4 x).take 1 ++ [x / 65536 % 256] = (numBytes 4 x).take 2 := by simp [numBytes]
        rw [← e]; exact hb
      clear hb HF
      go_wp2
      go_roundw
      case rel => exact ⟨2, by omega, by simp, HN.out⟩
      case measure => simp [intOf]
    · obtain ⟨la, lc, rfl⟩ := hf.form
      have HF : Hid (Buf w wr _ ((numBytes 4 x).take 2)) := hf
      clear hf
      go_wp2_with (at_builtin; refine app_one rfl (.tmp 13) (.tmp 19) rfl w _ _ rfl HF.out (x / 256 % 256) rfl (by simp [numBytes]) ?_)
      intro v' w1 hb
      have HN : Hid (Buf w w1 v' ((numBytes 4 x).take 3)) := by
        show Buf _ _ _ _
        have e : (numBytes 4 x).take 2 ++ [x / 256 % 256] = (numBytes 4 x).take 3 := by simp [numBytes]
        rw [← e]; exact hb
      clear hb HF
      go_wp2
      go_roundw
      case rel => exact ⟨3, by omega, by simp, HN.out⟩
      case measure => simp [intOf]
    · obtain ⟨la, lc, rfl⟩ := hf.form
      have HF : Hid (Buf w wr _ ((numBytes 4 x).take 3)) := hf
      clear hf
      go_wp2_with (at_builtin; refine app_one rfl (.tmp 13) (.tmp 19) rfl w _ _ rfl HF.out (x % 256) rfl (by simp [numBytes]) ?_)
      intro v' w1 hb
      have HN : Hid (Buf w w1 v' ((numBytes 4 x).take 4)) := by
        show Buf _ _ _ _
        have e : (numBytes 4 x).take 3 ++ [x % 256] = (numBytes 4 x).take 4 := by simp [numBytes]
        rw [← e]; exact hb
      clear hb HF
      go_wp2
      go_roundw
      case rel => exact ⟨4, by omega, by simp, HN.out⟩
      case measure => simp [intOf]
    · have HF : Hid (Buf w wr _ (numBytes 4 x)) := hf
      go_wp2
      go_ret
      exact ⟨_, rfl, HF.out⟩

theorem rtwo_any (x : Int) (w : World) (hx0 : 0 ≤ x) (hx : x < 65536) :
    Calls Tryz.prog 90 #[.int .u16 x] w fun e w' => ∃ v, e = .returned v ∧ Buf w w' v (numBytes 2 x) := by
  go_enter Tryz.func90, Tryz.ntmps90
  go_wp2_with fail
  refine (four2_any x _ hx0 (by omega)).mono ?_
  rintro e w1 ⟨v, rfl, hb⟩
  go_wp2
  go_ret
  exact ⟨v, rfl, hb⟩
theorem rfour_any (x : Int) (w : World) (hx0 : 0 ≤ x) (hx : x < 4294967296) :
    Calls Tryz.prog 91 #[.int .u32 x] w fun e w' => ∃ v, e = .returned v ∧ Buf w w' v (numBytes 4 x) := by
  go_enter Tryz.func91, Tryz.ntmps91
  go_wp2_with fail
  refine (four4_any x _ hx0 hx).mono ?_
  rintro e w1 ⟨v, rfl, hb⟩
  go_wp2
  go_ret
  exact ⟨v, rfl, hb⟩
end Go.Proofs.YtjffcflhbnmjmaaGreat

namespace Go.Proofs.YtjffcflhbnmjmaaGreat
open Go.RowKit
set_option linter.unusedVariables false
set_option maxRecDepth 100000

theorem ArgAt.vals {w : World} {v : Value} {rs : List Int} (h : ArgAt w v rs) : ValsAt w 1 v rs.length (bytesOf rs) := by
  refine ⟨by simp [bytesOf], ?_⟩
  rcases h with ⟨rfl, rfl⟩ | h
  · exact Or.inl ⟨rfl, rfl⟩
  · exact Or.inr h

theorem take_next' {l : List Int} {j : Nat} (h : j < l.length) : l.take (j + 1) = l.take j ++ [l.getD j 0] := by
  rw [List.take_add_one, List.getElem?_eq_getElem h]
  simp [List.getD, h]
theorem pow256 {k : Nat} (h : k ≤ 3) : (256 : Int) ^ k ≤ 16777216 := by
  rcases (by omega : k = 0 ∨ k = 1 ∨ k = 2 ∨ k = 3) with rfl | rfl | rfl | rfl <;> decide
theorem rnumber_any (v : Value) (rs : List Int) (w : World) (hv : ArgAt w v rs) (hby : ∀ x ∈ rs, 0 ≤ x ∧ x < 256) (hl : rs.length ≤ 4) :
    Calls Tryz.prog 88 #[v] w fun e w' => e = .returned (.int .u32 (numOf rs)) ∧ w = w' := by
  obtain ⟨va, vc, rfl, hm⟩ := hv.form
  have HV : Hid (ArgAt w (.slice va rs.length vc) rs) := hv
  clear hv
  go_enter Tryz.func88, Tryz.ntmps88
  go_wp2
  go_loopw [3, 4] (fun s i wr => ∃ (j : Nat) (n : Int), j ≤ rs.length ∧ i = .int .i64 (j : Int) ∧ s = .int .u32 n ∧ Hid (n = numOf (rs.take j)) ∧ wr = w) (fun _ i _ => rs.length - (intOf i).toNat)
  case atStart => exact ⟨0, 0, Nat.zero_le _, rfl, rfl, rfl, rfl⟩
  case round =>
    obtain ⟨j, n, hj, rfl, rfl, HN, rfl⟩ := hrel
    have hnb := numOf_bound (rs.take j) (fun z hz => hby z (List.mem_of_mem_take hz))
    rw [← HN.out] at hnb
    rcases Nat.lt_or_ge j rs.length with hlt | hge
    · have hlt' : (j : Int) < (rs.length : Int) := by omega
      obtain ⟨g, off, c, e, h1, h2, h3⟩ := HV.out.vals.cells (by omega) (by decide)
      obtain ⟨rfl, _, rfl⟩ : va = some ⟨g, off, none⟩ ∧ True ∧ vc = c := by cases e; exact ⟨rfl, trivial, rfl⟩
      have hc : wr.cell? ⟨g, off + j, none⟩ = some (.int .u8 (rs.getD j 0)) := h3 j _ (by simp [bytesOf, List.getD, hlt])
      have hz := hby (rs.getD j 0) (by simp [List.getD, hlt])
      have hs : Hid (256 * n + rs.getD j 0 = numOf (rs.take (j + 1))) := by show _ = _; rw [take_next' hlt, numOf_snoc, HN.out]
      have hp := pow256 (k := (rs.take j).length) (by simp; omega)
      have hn1 : n < 16777216 := by omega
      obtain ⟨hn0, -⟩ := hnb
      generalize rs.getD j 0 = z at hc hz hs
      obtain ⟨hz0, hz1⟩ := hz
      clear h3 e HN hp
      go_wp2
      go_roundw
      case rel => exact ⟨j + 1, _, by omega, by go_num, rfl, hs, trivial⟩
      case measure => simp [intOf]; omega
    · obtain rfl : j = rs.length := by omega
      have hlt' : ¬ (rs.length : Int) < (rs.length : Int) := by omega
      have HE : Hid (n = numOf rs) := by show _ = _; rw [HN.out, List.take_length]
      clear hnb HN
      go_wp2
      go_ret
      rw [← HE.out]
      exact ⟨rfl, rfl⟩

theorem rknown_any (t : Int) (h0 : 0 ≤ t) (w : World) : Calls Tryz.prog 43 #[.int .u8 t] w fun e w' => e = .returned (.bool (knownB t)) ∧ w = w' := by
  have HK : Hid (knownB t = ((decide (1 ≤ t) && decide (t ≤ 5)) || decide (t = 7) || (decide (9 ≤ t) && decide (t ≤ 11)))) := rfl
  generalize knownB t = k at HK ⊢
  go_enter Tryz.func43, Tryz.ntmps43
  go_wp2
  all_goals go_ret
  all_goals refine ⟨ret_bool ?_, rfl⟩
  all_goals (rw [HK.out, Bool.eq_iff_iff]; simp; omega)
end Go.Proofs.YtjffcflhbnmjmaaGreat

namespace Go.Proofs.YtjffcflhbnmjmaaGreat
open Go.RowKit
set_option linter.unusedVariables false
set_option maxRecDepth 100000

section
variable {ops : Array Oper} {rest : List Oper} {o : Oper} {a : Act} {Q : Exit → Act → World → Prop} {w : World}
/-- append(p, y, z), the two in a new block of their own. -/
theorem app_two (hgd : o.guard = none) (s x : Operand) (ho : o.op = .call { callee := .builtin .append, args := #[s, x], argTypes := #[50, 50] })
    (w0 : World) (v : Value) (l : List Int) (hs : a.eval s = v) (hb : Buf w0 w v l) (y z : Int) (hx : a.eval x = .slice (some ⟨w.heap.size, 0, none⟩) 2 2) (hl : l.length + 2 ≤ 1099511627776)
    (h : ∀ v' w', Buf w0 w' v' (l ++ [y, z]) → wpList Tryz.prog ops Q rest (a.put o.dst v') w') : wpList Tryz.prog ops Q (o :: rest) a (w.alloc (.cells #[.int .u8 y, .int .u8 z] 5)) :=
  app_arg hgd s x ho w0 v l hs (hb.keep ((Touch.refl _ w).alloc _)) _ [y, z] hx (Or.inr ⟨_, 2, rfl, by simp, by simp [maxLen], fun j u hj => by
    match j, hj with
    | 0, hj => simp [bytesOf] at hj; subst hj; simp [go_sem, Addr.add]
    | 1, hj => simp [bytesOf] at hj; subst hj; simp [go_sem, Addr.add]⟩) (by simp; omega) h
end

set_option maxHeartbeats 1000000 in
theorem dheadB_any (h : HV) (ok : h.All) (w : World) : Calls Tryz.prog 67 #[h.v] w fun e w' => ∃ v, e = .returned v ∧ Buf w w' v (headB h) := by
  have OK : Hid h.All := ok
  clear ok
  show Calls Tryz.prog 67 #[.agg #[.int .u16 h.age, .int .u8 h.opts, .int .u8 h.typ, .int .u32 h.id, .int .u32 h.adv, .int .i32 h.seq, .int .u16 h.sum, .int .u16 h.len]] w _
  go_enter Tryz.func67, Tryz.ntmps67
  go_wp2_with fail
  have K0 : Hid (Hd (w.alloc (.cells #[.int .u16 h.age, .int .u8 h.opts, .int .u8 h.typ, .int .u32 h.id, .int .u32 h.adv, .int .i32 h.seq, .int .u16 h.sum, .int .u16 h.len] 49)) w.heap.size h) := Hd.new w h _
  have T0 : Hid (Touch (fun _ => False) w (w.alloc (.cells #[.int .u16 h.age, .int .u8 h.opts, .int .u8 h.typ, .int .u32 h.id, .int .u32 h.adv, .int .i32 h.seq, .int .u16 h.sum, .int .u16 h.len] 49))) := (Touch.refl _ w).alloc _
  generalize w.alloc (.cells #[.int .u16 h.age, .int .u8 h.opts, .int .u8 h.typ, .int .u32 h.id, .int .u32 h.adv, .int .i32 h.seq, .int .u16 h.sum, .int .u16 h.len] 49) = wa at K0 T0 ⊢
  generalize w.heap.size = g at K0 ⊢
  refine Calls.mono (rtwo_any h.age _ OK.out.a.1 OK.out.a.2) ?_
  rintro e w1 ⟨v1, rfl, b1⟩
  have B1 : Hid (Buf wa w1 v1 (numBytes 2 h.age)) := b1
  obtain ⟨c0, c1, c2, c3, c4, c5, c6, c7⟩ := K0.out.keep b1.t
  clear b1
  go_wp2_with (at_builtin; refine app_two rfl (.tmp 7) (.tmp 12) rfl wa _ _ rfl B1.out _ _ rfl (by simp [numBytes]) ?_)
  intro v2 w2 b2
  clear c0 c1 c2 c3 c4 c5 c6 c7 B1
  have B2 : Hid (Buf wa w2 v2 (numBytes 2 h.age ++ [h.opts, h.typ])) := b2
  obtain ⟨c0, c1, c2, c3, c4, c5, c6, c7⟩ := K0.out.keep b2.t
  clear b2
  go_wp2_with fail
  refine Calls.mono (rfour_any h.id _ OK.out.i.1 OK.out.i.2) ?_
  rintro e y2 ⟨u2v, rfl, d2⟩
  clear c0 c1 c2 c3 c4 c5 c6 c7
  have D2 : Hid (ArgAt y2 u2v (numBytes 4 h.id)) := d2.arg
  have E2 : Hid (Buf wa y2 v2 (numBytes 2 h.age ++ [h.opts, h.typ])) := B2.out.keep d2.t
  clear d2 B2
  go_wp2_with (at_builtin; refine app_arg rfl (.tmp 14) (.tmp 17) rfl wa _ _ rfl E2.out _ _ rfl D2.out (by simp [numBytes]) ?_)
  intro v3 w3 b3
  clear D2 E2
  have B3 : Hid (Buf wa w3 v3 (numBytes 2 h.age ++ [h.opts, h.typ] ++ numBytes 4 h.id)) := b3
  obtain ⟨c0, c1, c2, c3, c4, c5, c6, c7⟩ := K0.out.keep b3.t
  clear b3
  go_wp2_with fail
  refine Calls.mono (rfour_any h.adv _ OK.out.v.1 OK.out.v.2) ?_
  rintro e y3 ⟨u3v, rfl, d3⟩
  clear c0 c1 c2 c3 c4 c5 c6 c7
  have D3 : Hid (ArgAt y3 u3v (numBytes 4 h.adv)) := d3.arg
  have E3 : Hid (Buf wa y3 v3 (numBytes 2 h.age ++ [h.opts, h.typ] ++ numBytes 4 h.id)) := B3.out.keep d3.t
  clear d3 B3
  go_wp2_with (at_builtin; refine app_arg rfl (.tmp 19) (.tmp 22) rfl wa _ _ rfl E3.out _ _ rfl D3.out (by simp [numBytes]) ?_)
  intro v4 w4 b4
  clear D3 E3
  have B4 : Hid (Buf wa w4 v4 (numBytes 2 h.age ++ [h.opts, h.typ] ++ numBytes 4 h.id ++ numBytes 4 h.adv)) := b4
  obtain ⟨c0, c1, c2, c3, c4, c5, c6, c7⟩ := K0.out.keep b4.t
  clear b4
  go_wp2_with fail
  refine Calls.mono (rfour_any (h.seq % 4294967296) _ (by omega) (by omega)) ?_
  rintro e y4 ⟨u4v, rfl, d4⟩
  clear c0 c1 c2 c3 c4 c5 c6 c7
  have D4 : Hid (ArgAt y4 u4v (numBytes 4 (h.seq % 4294967296))) := d4.arg
  have E4 : Hid (Buf wa y4 v4 (numBytes 2 h.age ++ [h.opts, h.typ] ++ numBytes 4 h.id ++ numBytes 4 h.adv)) := B4.out.keep d4.t
  clear d4 B4
  go_wp2_with (at_builtin; refine app_arg rfl (.tmp 24) (.tmp 28) rfl wa _ _ rfl E4.out _ _ rfl D4.out (by simp [numBytes]) ?_)
  intro v5 w5 b5
  clear D4 E4
  have B5 : Hid (Buf wa w5 v5 (numBytes 2 h.age ++ [h.opts, h.typ] ++ numBytes 4 h.id ++ numBytes 4 h.adv ++ numBytes 4 (h.seq % 4294967296))) := b5
  obtain ⟨c0, c1, c2, c3, c4, c5, c6, c7⟩ := K0.out.keep b5.t
  clear b5
  go_wp2_with fail
  refine Calls.mono (rtwo_any h.sum _ OK.out.m.1 OK.out.m.2) ?_
  rintro e y5 ⟨u5v, rfl, d5⟩
  clear c0 c1 c2 c3 c4 c5 c6 c7
  have D5 : Hid (ArgAt y5 u5v (numBytes 2 h.sum)) := d5.arg
  have E5 : Hid (Buf wa y5 v5 (numBytes 2 h.age ++ [h.opts, h.typ] ++ numBytes 4 h.id ++ numBytes 4 h.adv ++ numBytes 4 (h.seq % 4294967296))) := B5.out.keep d5.t
  clear d5 B5
  go_wp2_with (at_builtin; refine app_arg rfl (.tmp 30) (.tmp 33) rfl wa _ _ rfl E5.out _ _ rfl D5.out (by simp [numBytes]) ?_)
  intro v6 w6 b6
  clear D5 E5
  have B6 : Hid (Buf wa w6 v6 (numBytes 2 h.age ++ [h.opts, h.typ] ++ numBytes 4 h.id ++ numBytes 4 h.adv ++ numBytes 4 (h.seq % 4294967296) ++ numBytes 2 h.sum)) := b6
  obtain ⟨c0, c1, c2, c3, c4, c5, c6, c7⟩ := K0.out.keep b6.t
  clear b6
  go_wp2_with fail
  refine Calls.mono (rtwo_any h.len _ OK.out.l.1 OK.out.l.2) ?_
  rintro e y6 ⟨u6v, rfl, d6⟩
  clear c0 c1 c2 c3 c4 c5 c6 c7
  have D6 : Hid (ArgAt y6 u6v (numBytes 2 h.len)) := d6.arg
  have E6 : Hid (Buf wa y6 v6 (numBytes 2 h.age ++ [h.opts, h.typ] ++ numBytes 4 h.id ++ numBytes 4 h.adv ++ numBytes 4 (h.seq % 4294967296) ++ numBytes 2 h.sum)) := B6.out.keep d6.t
  clear d6 B6
  go_wp2_with (at_builtin; refine app_arg rfl (.tmp 35) (.tmp 38) rfl wa _ _ rfl E6.out _ _ rfl D6.out (by simp [numBytes]) ?_)
  intro v7 w7 b7
  clear D6 E6
  have B : Hid (Buf wa w7 v7 (headB h)) := b7
  clear b7
  go_wp2_with fail
  go_ret
  exact ⟨_, rfl, B.out.back T0.out⟩
end Go.Proofs.YtjffcflhbnmjmaaGreat
