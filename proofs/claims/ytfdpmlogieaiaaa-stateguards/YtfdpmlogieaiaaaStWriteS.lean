/- Pure: one byte of a right state that is changed is told. -/
import Derived.Test.YtfdpmlogieaiaaaStTypes
import Derived.Test.YtfdpmlogieaiaaaStRead3
import Derived.Test.YtfdpmlogieaiaaaStRd2
import Derived.Deep.RegionHeld2
import Derived.Deep.RegionHeld3
namespace Go.Proofs.Ytfdpmlogieaiaaa
open Go.RowKit
set_option linter.unusedVariables false
set_option maxRecDepth 100000

theorem list20 {l : List Int} (h : l.length = 20) : ∃ a b c d e f g i j k m n o p q r s t u v, l = [a, b, c, d, e, f, g, i, j, k, m, n, o, p, q, r, s, t, u, v] := by
  match l, h with
  | [a, b, c, d, e, f, g, i, j, k, m, n, o, p, q, r, s, t, u, v], _ => exact ⟨a, b, c, d, e, f, g, i, j, k, m, n, o, p, q, r, s, t, u, v, rfl⟩
theorem wrap32_mod {x : Int} (h0 : 0 ≤ x) (h1 : x < 4294967296) : IntKind.i32.wrap x % 4294967296 = x := by
  simp [IntKind.wrap, IntKind.bits, IntKind.signed]
  omega
theorem headB_rdHead {l : List Int} (hl : l.length = 20) (hb : ∀ z ∈ l, 0 ≤ z ∧ z < 256) : headB (rdHead l) = l := by
  obtain ⟨a, b, c, d, e, f, g, i, j, k, m, n, o, p, q, r, s, t, u, v, rfl⟩ := list20 hl
  simp only [List.mem_cons, List.not_mem_nil, or_false, forall_eq_or_imp, forall_eq] at hb
  obtain ⟨ha, hb, hc, hd, he, hf, hg, hi, hj, hk, hm, hn, ho, hp, hq, hr, hs, ht, hu, hv⟩ := hb
  have e1 : rdHead [a, b, c, d, e, f, g, i, j, k, m, n, o, p, q, r, s, t, u, v] = ⟨numOf [a, b], c, d, numOf [e, f, g, i], numOf [j, k, m, n], IntKind.i32.wrap (numOf [o, p, q, r]), numOf [s, t], numOf [u, v]⟩ := by
    simp [rdHead, numAt, nextAt, numOf1]
  have hw := four_ok ho hp hq hr
  rw [e1]
  unfold headB
  dsimp only
  rw [wrap32_mod hw.1 hw.2, numBytes_two a b ha hb, numBytes_four e f g i he hf hg hi, numBytes_four j k m n hj hk hm hn, numBytes_four o p q r ho hp hq hr, numBytes_two s t hs ht, numBytes_two u v hu hv]
  rfl
theorem rdHead_all {l : List Int} (hb : ∀ z ∈ l, 0 ≤ z ∧ z < 256) : (rdHead l).All := by
  have b1 : ∀ q, 0 ≤ numAt l q 1 ∧ numAt l q 1 < 256 := fun q => by have := numAt_bound hb q 1; omega
  have b2 : ∀ q, 0 ≤ numAt l q 2 ∧ numAt l q 2 < 65536 := fun q => by have := numAt_bound hb q 2; omega
  have b4 : ∀ q, 0 ≤ numAt l q 4 ∧ numAt l q 4 < 4294967296 := fun q => by have := numAt_bound hb q 4; omega
  have b5 : ∀ x : Int, -2147483648 ≤ IntKind.i32.wrap x ∧ IntKind.i32.wrap x ≤ 2147483647 := fun x => by simp [IntKind.wrap, IntKind.bits, IntKind.signed]; omega
  unfold rdHead
  constructor
  · dsimp only; exact b2 _
  · dsimp only; exact b1 _
  · dsimp only; exact b1 _
  · dsimp only; exact b4 _
  · dsimp only; exact b4 _
  · dsimp only; exact b5 _
  · dsimp only; exact b2 _
  · dsimp only; exact b2 _
structure Right (h : HV) (rs : List Int) : Prop where
  len : h.len = 20 + (rs.length : Int)
  sum : h.sum ≠ 0
  whole : whole ((headB h ++ rs).drop 2) = true
  known : knownB h.typ = true
  seq : h.seq ≠ -2147483648
  age : bits BinOp.andNot .u16 h.age 32768 ≤ 3600
  dec : decB h.typ rs ≠ none
theorem right_of {h : HV} {rs : List Int} (e : chkE h rs = 0) : Right h rs := by
  unfold chkE at e
  split at e
  · omega
  · rename_i h1
    split at e
    · omega
    · rename_i h2
      split at e
      · omega
      · rename_i h3
        split at e
        · omega
        · rename_i h4
          split at e
          · omega
          · rename_i h5
            refine ⟨by omega, fun q => h2 (Or.inl q), ?_, by simpa using h3, fun q => h4 (Or.inl q), ?_, h5⟩
            · cases hw : Ytfdpmlogieaiaaa.whole ((headB h ++ rs).drop 2) with
              | true => rfl
              | false => exact absurd (Or.inr hw) h2
            · exact Classical.byContradiction (fun q => h4 (Or.inr q))
theorem right_chk {h : HV} {rs : List Int} (r : Right h rs) : chkE h rs = 0 := by
  unfold chkE
  rw [if_neg (by have := r.len; omega), if_neg (by rintro (q | q); exact r.sum q; rw [r.whole] at q; cases q), if_neg (by rw [r.known]; decide), if_neg (by rintro (q | q); exact r.seq q; exact q r.age), if_neg r.dec]
theorem readE_zero {rs : List Int} (e : readE rs = 0) : 20 ≤ rs.length ∧ 20 ≤ (rdHead (rs.take 20)).len ∧ (rdHead (rs.take 20)).len ≤ (rs.length : Int) := by
  unfold readE at e
  split at e
  · omega
  · split at e
    · omega
    · split at e
      · omega
      · omega
theorem guards_pure {h : HV} {rs : List Int} (hc : chkE h rs = 0) (ok : h.All) (hb : ∀ z ∈ rs, 0 ≤ z ∧ z < 256) {k : Nat} (h2 : 2 ≤ k) (hk : k < 20 + rs.length) {tb : Int} (ht : 0 ≤ tb ∧ tb < 256) (hne : (headB h ++ rs).getD k 0 % 255 ≠ tb % 255)
    (hr : readE ((headB h ++ rs).set k tb) = 0) (hl : (rdHead (((headB h ++ rs).set k tb).take 20)).len = 20 + (rs.length : Int)) :
    chkE (rdHead (((headB h ++ rs).set k tb).take 20)) ((((headB h ++ rs).set k tb).drop 20).take ((rdHead (((headB h ++ rs).set k tb).take 20)).len.toNat - 20)) ≠ 0 := by
  have R := right_of hc
  have hll : (headB h ++ rs).length = 20 + rs.length := by rw [List.length_append, length_headB]
  have hby : ∀ z ∈ headB h ++ rs, 0 ≤ z ∧ z < 256 := fun z hz => by
    rcases List.mem_append.1 hz with h' | h'
    · exact headB_byte ok z h'
    · exact hb z h'
  have W := R.whole
  generalize headB h ++ rs = L at *
  intro e
  have R' := right_of e
  have W' := R'.whole
  have hbs : ∀ z ∈ L.set k tb, 0 ≤ z ∧ z < 256 := fun z hz => by
    rcases List.mem_or_eq_of_mem_set hz with h' | rfl
    · exact hby z h'
    · exact ht
  have hls : (L.set k tb).length = 20 + rs.length := by rw [List.length_set, hll]
  rw [headB_rdHead (by rw [List.length_take, hls]; omega) (fun z hz => hbs z (List.mem_of_mem_take hz)), hl] at W'
  rw [List.take_of_length_le (i := (20 + (rs.length : Int)).toNat - 20) (by rw [List.length_drop, hls]; omega), List.take_append_drop] at W'
  have hd : (L.set k tb).drop 2 = (L.drop 2).set (k - 2) tb := by
    rw [List.drop_set]
    rw [if_neg (by omega)]
  rw [hd, whole_set _ _ _ (by rw [List.length_drop, hll]; omega) W, decide_eq_true_iff] at W'
  apply hne
  rw [← W']
  congr 1
  rw [List.getD_eq_getElem?_getD, List.getD_eq_getElem?_getD, List.getElem?_drop, show 2 + (k - 2) = k by omega]
end Go.Proofs.Ytfdpmlogieaiaaa

namespace Go.Proofs.Ytfdpmlogieaiaaa
open Go.RowKit
set_option linter.unusedVariables false
set_option maxRecDepth 100000

/-- What was kept but for a block. -/
def but (X : Nat → Prop) (g : Nat) : Nat → Prop := fun k => X k ∧ k ≠ g
theorem Kept.store {X : Nat → Prop} {w : World} (g i : Nat) (u : Value) : Kept (but X g) w (w.setCell ⟨g, i, none⟩ u) :=
  Touch.setCell (F := fun k => ¬ but X g k) (p := ⟨g, i, none⟩) (Touch.refl _ _) (Or.inl (fun h => h.2 rfl)) u
theorem Kept.but {X : Nat → Prop} {w w' : World} (k : Kept X w w') (g : Nat) : Kept (but X g) w w' := k.less (fun i _ h => h.1)
theorem Wr.store {X : Nat → Prop} {w : World} {b : Nat} {L : List Int} {most : Int} (h : Wr X w b L most) {g : Nat} (hg : X g) (i : Nat) (u : Value) : Wr X (w.setCell ⟨g, i, none⟩ u) b L most :=
  h.touch (Touch.setCell (F := fun k => k = g) (p := ⟨g, i, none⟩) (Touch.refl _ _) (Or.inl rfl) u) (fun k hk => hk ▸ hg)
set_option maxHeartbeats 2000000 in
theorem wsum_ok (X : Nat → Prop) (b g : Nat) (L : List Int) (most : Int) (B : BV) (vl vr vd : Value) (ok : B.Ok) (w : World) (hw : Wr X w b L most) (hm : most ≤ 1048576) (hg : X g) (hB : OutB w g B vl vr vd)
    (hp : pbok B.mask = true) (hq : B.metric ≤ 16777215) :
    Calls Try.prog 68 #[.agg #[.pointer (some ⟨b, 0, none⟩)], .pointer (some ⟨g, 0, none⟩)] w fun e w' => e = .returned (.tuple #[]) ∧ Wr X w' b (L ++ numBytes 4 B.mask ++ [0] ++ numBytes 3 B.metric) most ∧ OutB w' g { B with mask := 0, metric := 0 } vl vr vd ∧ Kept (but X g) w w' := by
  have OK : Hid B.Ok := ok
  have hgl := hB.lt
  go_enter Try.func68, Try.ntmps68
  go_upto_region 1 with fail
  obtain ⟨X1, hX1⟩ : ∃ X1 : Nat → Prop, X1 = fun k => X k ∨ k = w.heap.size := ⟨_, rfl⟩
  have XG : Hid (X1 g) := by show X1 g; rw [hX1]; exact Or.inl hg
  have XM : Hid (X1 w.heap.size) := by show X1 _; rw [hX1]; exact Or.inr rfl
  have XX : Hid (∀ k, X k → X1 k) := by show ∀ k, _; rw [hX1]; exact fun k hk => Or.inl hk
  have ta : Touch (fun _ => False) w (w.alloc (.cells #[.pointer (some ⟨b, 0, none⟩)] 76)).drew := ((Touch.refl _ w).alloc _).drew
  have hW : Wr X1 (w.alloc (.cells #[.pointer (some ⟨b, 0, none⟩)] 76)).drew b L most := hw.more ta (fun k hk => by rw [hX1] at hk; rcases hk with hk | hk; exact Or.inl hk; exact Or.inr ⟨by omega, by simp [World.drew]; omega⟩)
  have OB := hB.keep ta
  have c0 : (w.alloc (.cells #[.pointer (some ⟨b, 0, none⟩)] 76)).drew.cell? ⟨w.heap.size, 0, none⟩ = some (.pointer (some ⟨b, 0, none⟩)) := by simp [go_sem]
  have hne : ¬ w.heap.size = g := by omega
  have hne' : ¬ g = w.heap.size := by omega
  have HTA : Hid (Touch (fun _ => False) w (w.alloc (.cells #[.pointer (some ⟨b, 0, none⟩)] 76))) := (Touch.refl _ w).alloc _
  clear hX1 hw hB ta
  generalize (w.alloc (.cells #[.pointer (some ⟨b, 0, none⟩)] 76)) = w1 at *
  generalize w.heap.size = g1 at *
  have dw1 : w1.drew.cell? ⟨g, 2, none⟩ = some (.int .u32 B.mask) := OB.bd.c2
  have fw1 : w1.drew.frozen? ⟨g, 2, none⟩ = false := OB.fz 2 (by omega)
  have HWtw1 : Hid (Wr X1 (w1.drew.setCell ⟨g, 2, none⟩ (.int .u32 0)) b L most) := hW.store XG.out _ _
  have HOtw1 : Hid (OutB (w1.drew.setCell ⟨g, 2, none⟩ (.int .u32 0)) g { B with mask := 0 } vl vr vd) := OB.set2
  have HKtw1 : Hid (Kept (but X1 g) w1.drew (w1.drew.setCell ⟨g, 2, none⟩ (.int .u32 0))) := Kept.store _ _ _
  have HCtw1 : Hid ((w1.drew.setCell ⟨g, 2, none⟩ (.int .u32 0)).cell? ⟨g1, 0, none⟩ = some (.pointer (some ⟨b, 0, none⟩))) := HKtw1.out.cell c0 ⟨XM.out, hne⟩
  have HKw1 : Hid (Kept (but X1 g) w1 w1.drew) := Kept.of ((Touch.refl _ _).drew)
  go_region_held3 (fun w' => w'.cell? ⟨g1, 0, none⟩ = some (.pointer (some ⟨b, 0, none⟩))) (go_keep) (first
    | (go_at_call 77; refine Calls.mono (take_u32 g 2 B.mask _ (by assumption) (by assumption)) ?_; rintro e wx ⟨rfl, hwx⟩; have yx : wx.cell? ⟨g1, 0, none⟩ = some (.pointer (some ⟨b, 0, none⟩)) := hwx ▸ HCtw1.out; have HWx : Hid (Wr X1 wx b L most) := hwx ▸ HWtw1; have HOx : Hid (OutB wx g { B with mask := 0 } vl vr vd) := hwx ▸ HOtw1; have HKx : Hid (Kept (but X1 g) w1.drew wx) := hwx ▸ HKtw1; clear hwx)
    | (go_at_call 76; refine Calls.mono (wmask_ok X1 b L most B.mask _ HWx.out hm OK.out.m.1 OK.out.m.2 hp) ?_; rintro e w2 ⟨rfl, hw2, k2⟩; have yw2 : w2.cell? ⟨g1, 0, none⟩ = some (.pointer (some ⟨b, 0, none⟩)) := k2.cell yx XM.out; have HWw2 : Hid (Wr X1 w2 b (L ++ numBytes 4 B.mask) most) := hw2; have HOw2 : Hid (OutB w2 g { B with mask := 0 } vl vr vd) := HOx.out.kept k2 XG.out; have HKw2 : Hid (Kept (but X1 g) w1 w2) := HKw1.out.trans (HKx.out.trans (k2.but g)); clear hw2 k2))
  clear dw1 fw1 HWtw1 HOtw1 HKtw1 HCtw1 yx HWx HOx HKx
  go_wp2_with fail
  refine Calls.mono (put_some X1 b _ most ⟨w2.heap.size, 0, none⟩ 1 [0] _ (HWw2.out.keep ((Touch.refl _ _).alloc _)) hm (src_new _ _ _ _ _ (by simp [bytesOf])) (by simp)) ?_
  rintro e w3 ⟨rfl, hw3, k3⟩
  have ta3 : Touch (fun _ => False) w2 (w2.alloc (.cells #[.int .u8 0] 5)) := (Touch.refl _ _).alloc _
  have c3 := k3.cell (p := ⟨g1, 0, none⟩) (v := .pointer (some ⟨b, 0, none⟩)) (ta3.cellN yw2) XM.out
  have OB3 := (HOw2.out.keep ta3).kept k3 XG.out
  have HK3 : Hid (Kept (but X1 g) w1 w3) := HKw2.out.trans ((Kept.of ta3).trans (k3.but g))
  have c3d : w3.drew.cell? ⟨g1, 0, none⟩ = some (.pointer (some ⟨b, 0, none⟩)) := c3
  have OB3d := OB3.keep ((Touch.refl (fun _ => False) w3).drew)
  have hW3 := hw3.keep ((Touch.refl (fun _ => False) w3).drew)
  clear ta3 k3 yw2 c3 hw3 OB3
  go_upto_region 3 with fail
  have dw3 : w3.drew.cell? ⟨g, 4, none⟩ = some (.int .u32 B.metric) := OB3d.bd.c4
  have fw3 : w3.drew.frozen? ⟨g, 4, none⟩ = false := OB3d.fz 4 (by omega)
  have HWtw3 : Hid (Wr X1 (w3.drew.setCell ⟨g, 4, none⟩ (.int .u32 0)) b (L ++ numBytes 4 B.mask ++ [0]) most) := hW3.store XG.out _ _
  have HOtw3 : Hid (OutB (w3.drew.setCell ⟨g, 4, none⟩ (.int .u32 0)) g { { B with mask := 0 } with metric := 0 } vl vr vd) := OB3d.set4
  have HKtw3 : Hid (Kept (but X1 g) w3.drew (w3.drew.setCell ⟨g, 4, none⟩ (.int .u32 0))) := Kept.store _ _ _
  have HCtw3 : Hid ((w3.drew.setCell ⟨g, 4, none⟩ (.int .u32 0)).cell? ⟨g1, 0, none⟩ = some (.pointer (some ⟨b, 0, none⟩))) := HKtw3.out.cell c3d ⟨XM.out, hne⟩
  have HKw3 : Hid (Kept (but X1 g) w3 w3.drew) := Kept.of ((Touch.refl _ _).drew)
  go_region_held3 (fun w' => w'.cell? ⟨g1, 0, none⟩ = some (.pointer (some ⟨b, 0, none⟩))) (go_keep) (first
    | (go_at_call 77; refine Calls.mono (take_u32 g 4 B.metric _ (by assumption) (by assumption)) ?_; rintro e wx ⟨rfl, hwx⟩; have yx : wx.cell? ⟨g1, 0, none⟩ = some (.pointer (some ⟨b, 0, none⟩)) := hwx ▸ HCtw3.out; have HWx : Hid (Wr X1 wx b (L ++ numBytes 4 B.mask ++ [0]) most) := hwx ▸ HWtw3; have HOx : Hid (OutB wx g { { B with mask := 0 } with metric := 0 } vl vr vd) := hwx ▸ HOtw3; have HKx : Hid (Kept (but X1 g) w3.drew wx) := hwx ▸ HKtw3; clear hwx)
    | (go_at_call 79; refine Calls.mono (wmetric_ok X1 b (L ++ numBytes 4 B.mask ++ [0]) most B.metric _ HWx.out hm OK.out.e.1 OK.out.e.2 hq) ?_; rintro e w4 ⟨rfl, hw2, k2⟩; have yw4 : w4.cell? ⟨g1, 0, none⟩ = some (.pointer (some ⟨b, 0, none⟩)) := k2.cell yx XM.out; have HWw4 : Hid (Wr X1 w4 b ((L ++ numBytes 4 B.mask ++ [0]) ++ numBytes 3 B.metric) most) := hw2; have HOw4 : Hid (OutB w4 g { { B with mask := 0 } with metric := 0 } vl vr vd) := HOx.out.kept k2 XG.out; have HKw4 : Hid (Kept (but X1 g) w3 w4) := HKw3.out.trans (HKx.out.trans (k2.but g)); clear hw2 k2))
  clear dw3 fw3 HWtw3 HOtw3 HKtw3 HCtw3 yx HWx HOx HKx
  clear yw4
  go_wp2
  go_end0
  refine ⟨rfl, HWw4.out.less XX.out, HOw4.out, ?_⟩
  have hk : Kept (but X1 g) w w4 := (Kept.of HTA.out).trans (HK3.out.trans HKw4.out)
  exact hk.less (fun k _ h => ⟨XX.out k h.1, h.2⟩)
end Go.Proofs.Ytfdpmlogieaiaaa
