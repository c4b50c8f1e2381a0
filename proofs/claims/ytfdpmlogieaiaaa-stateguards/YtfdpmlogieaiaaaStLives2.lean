/- Pure: one byte of a right state that is changed is told. -/
import Derived.Test.YtfdpmlogieaiaaaStTypes
import Derived.Test.YtfdpmlogieaiaaaStRead3
import Derived.Test.YtfdpmlogieaiaaaStEncAny
namespace Go.Proofs.Ytfdpmlogieaiaaa
open Go.RowKit
set_option linter.unusedVariables false
set_option maxRecDepth 100000

theorem list20 {l : List Int} (h : l.length = 20) : ∃ a b c d e f g i j k m n o p q r s t u v, l = [a, b, c, d, e, f, g, i, j, k, m, n, o, p, q, r, s, t, u, v] := by
  match l, h with
  | [a, b, c, d, e, f, g, i, j, k, m, n, o, p, q, r, s, t, u, v], _ => exact ⟨a, b, c, d, e, f, g, i, j, k, m, n, o, p, q, r, s, t, u, v, rfl⟩
theorem wrap32_mod {x : Int} (h0 : 0 ≤ x) (h1 : x < 4294967296) : IntKind.i32.wrap x % 4294967296 = x := by
  simp [IntKind.wrap, IntKind.bits, IntKind.signed]
  omega
theorem headB_rdHead {l : List Int} (hl : l.length = 20) (hb : ∀ z ∈ l, 0 ≤ z ∧ z < 256) : headB (rdHead l) = l := by
  obtain ⟨a, b, c, d, e, f, g, i, j, k, m, n, o, p, q, r, s, t, u, v, rfl⟩ := list20 hl
  simp only [List.mem_cons, List.not_mem_nil, or_false, forall_eq_or_imp, forall_eq] at hb
  obtain ⟨ha, hb, hc, hd, he, hf, hg, hi, hj, hk, hm, hn, ho, hp, hq, hr, hs, ht, hu, hv⟩ := hb
  have e1 : rdHead [a, b, c, d, e, f, g, i, j, k, m, n, o, p, q, r, s, t, u, v] = ⟨numOf [a, b], c, d, numOf [e, f, g, i], numOf [j, k, m, n], IntKind.i32.wrap (numOf [o, p, q, r]), numOf [s, t], numOf [u, v]⟩ := by
    simp [rdHead, numAt, nextAt, numOf1]
  have hw := four_ok ho hp hq hr
  rw [e1]
  unfold headB
  dsimp only
  rw [wrap32_mod hw.1 hw.2, numBytes_two a b ha hb, numBytes_four e f g i he hf hg hi, numBytes_four j k m n hj hk hm hn, numBytes_four o p q r ho hp hq hr, numBytes_two s t hs ht, numBytes_two u v hu hv]
  rfl
theorem rdHead_all {l : List Int} (hb : ∀ z ∈ l, 0 ≤ z ∧ z < 256) : (rdHead l).All := by
  have b1 : ∀ q, 0 ≤ numAt l q 1 ∧ numAt l q 1 < 256 := fun q => by have := numAt_bound hb q 1; omega
  have b2 : ∀ q, 0 ≤ numAt l q 2 ∧ numAt l q 2 < 65536 := fun q => by have := numAt_bound hb q 2; omega
  have b4 : ∀ q, 0 ≤ numAt l q 4 ∧ numAt l q 4 < 4294967296 := fun q => by have := numAt_bound hb q 4; omega
  have b5 : ∀ x : Int, -2147483648 ≤ IntKind.i32.wrap x ∧ IntKind.i32.wrap x ≤ 2147483647 := fun x => by simp [IntKind.wrap, IntKind.bits, IntKind.signed]; omega
  unfold rdHead
  constructor
  · dsimp only; exact b2 _
  · dsimp only; exact b1 _
  · dsimp only; exact b1 _
  · dsimp only; exact b4 _
  · dsimp only; exact b4 _
  · dsimp only; exact b5 _
  · dsimp only; exact b2 _
  · dsimp only; exact b2 _
structure Right (h : HV) (rs : List Int) : Prop where
  len : h.len = 20 + (rs.length : Int)
  sum : h.sum ≠ 0
  whole : whole ((headB h ++ rs).drop 2) = true
  known : knownB h.typ = true
  seq : h.seq ≠ -2147483648
  age : bits BinOp.andNot .u16 h.age 32768 ≤ 3600
  dec : decB h.typ rs ≠ none
theorem right_of {h : HV} {rs : List Int} (e : chkE h rs = 0) : Right h rs := by
  unfold chkE at e
  split at e
  · omega
  · rename_i h1
    split at e
    · omega
    · rename_i h2
      split at e
      · omega
      · rename_i h3
        split at e
        · omega
        · rename_i h4
          split at e
          · omega
          · rename_i h5
            refine ⟨by omega, fun q => h2 (Or.inl q), ?_, by simpa using h3, fun q => h4 (Or.inl q), ?_, h5⟩
            · cases hw : Ytfdpmlogieaiaaa.whole ((headB h ++ rs).drop 2) with
              | true => rfl
              | false => exact absurd (Or.inr hw) h2
            · exact Classical.byContradiction (fun q => h4 (Or.inr q))
theorem right_chk {h : HV} {rs : List Int} (r : Right h rs) : chkE h rs = 0 := by
  unfold chkE
  rw [if_neg (by have := r.len; omega), if_neg (by rintro (q | q); exact r.sum q; rw [r.whole] at q; cases q), if_neg (by rw [r.known]; decide), if_neg (by rintro (q | q); exact r.seq q; exact q r.age), if_neg r.dec]
theorem readE_zero {rs : List Int} (e : readE rs = 0) : 20 ≤ rs.length ∧ 20 ≤ (rdHead (rs.take 20)).len ∧ (rdHead (rs.take 20)).len ≤ (rs.length : Int) := by
  unfold readE at e
  split at e
  · omega
  · split at e
    · omega
    · split at e
      · omega
      · omega
theorem guards_pure {h : HV} {rs : List Int} (hc : chkE h rs = 0) (ok : h.All) (hb : ∀ z ∈ rs, 0 ≤ z ∧ z < 256) {k : Nat} (h2 : 2 ≤ k) (hk : k < 20 + rs.length) {tb : Int} (ht : 0 ≤ tb ∧ tb < 256) (hne : (headB h ++ rs).getD k 0 % 255 ≠ tb % 255)
    (hr : readE ((headB h ++ rs).set k tb) = 0) (hl : (rdHead (((headB h ++ rs).set k tb).take 20)).len = 20 + (rs.length : Int)) :
    chkE (rdHead (((headB h ++ rs).set k tb).take 20)) ((((headB h ++ rs).set k tb).drop 20).take ((rdHead (((headB h ++ rs).set k tb).take 20)).len.toNat - 20)) ≠ 0 := by
  have R := right_of hc
  have hll : (headB h ++ rs).length = 20 + rs.length := by rw [List.length_append, length_headB]
  have hby : ∀ z ∈ headB h ++ rs, 0 ≤ z ∧ z < 256 := fun z hz => by
    rcases List.mem_append.1 hz with h' | h'
    · exact headB_byte ok z h'
    · exact hb z h'
  have W := R.whole
  generalize headB h ++ rs = L at *
  intro e
  have R' := right_of e
  have W' := R'.whole
  have hbs : ∀ z ∈ L.set k tb, 0 ≤ z ∧ z < 256 := fun z hz => by
    rcases List.mem_or_eq_of_mem_set hz with h' | rfl
    · exact hby z h'
    · exact ht
  have hls : (L.set k tb).length = 20 + rs.length := by rw [List.length_set, hll]
  rw [headB_rdHead (by rw [List.length_take, hls]; omega) (fun z hz => hbs z (List.mem_of_mem_take hz)), hl] at W'
  rw [List.take_of_length_le (i := (20 + (rs.length : Int)).toNat - 20) (by rw [List.length_drop, hls]; omega), List.take_append_drop] at W'
  have hd : (L.set k tb).drop 2 = (L.drop 2).set (k - 2) tb := by
    rw [List.drop_set]
    rw [if_neg (by omega)]
  rw [hd, whole_set _ _ _ (by rw [List.length_drop, hll]; omega) W, decide_eq_true_iff] at W'
  apply hne
  rw [← W']
  congr 1
  rw [List.getD_eq_getElem?_getD, List.getD_eq_getElem?_getD, List.getElem?_drop, show 2 + (k - 2) = k by omega]
end Go.Proofs.Ytfdpmlogieaiaaa

namespace Go.Proofs.Ytfdpmlogieaiaaa
open Go.RowKit
set_option linter.unusedVariables false
set_option maxRecDepth 100000

theorem sealS_bytes {x y : Int} (hx : 1 ≤ x ∧ x ≤ 255) (hy : 1 ≤ y ∧ y ≤ 255) : numBytes 2 (256 * x + y) = [x, y] := by
  rw [numBytes2]
  congr 1
  · omega
  · congr 1
    omega
theorem head_laid (h : HV) (l : List Int) (s : Int) (x y : Int) (hs : numBytes 2 s = [x, y]) : (headB { h with sum := s } ++ l).drop 2 = laid ((headB h ++ l).drop 2) 14 x y := by
  simp only [headB, hs, numBytes2, numBytes4, List.cons_append, List.nil_append, List.drop, laid, List.set]
theorem head_age (h : HV) (l : List Int) (a : Int) : (headB { h with age := a } ++ l).drop 2 = (headB h ++ l).drop 2 := by
  simp only [headB, numBytes2, numBytes4, List.cons_append, List.nil_append, List.drop]
theorem length_head2 (h : HV) (l : List Int) : ((headB h ++ l).drop 2).length = 18 + l.length := by
  rw [List.length_drop, List.length_append, length_headB]; omega
theorem sealS_bound (h : HV) (l : List Int) : 257 ≤ sealS h l ∧ sealS h l ≤ 65535 := by
  have h1 := flx_bound ((headB { h with len := 20 + (l.length : Int) } ++ l).drop 2) 14
  have h2 := fly_bound ((headB { h with len := 20 + (l.length : Int) } ++ l).drop 2) 14
  unfold sealS
  omega
theorem sealS_num (h : HV) (l : List Int) : numBytes 2 (sealS h l) = [flx ((headB { h with len := 20 + (l.length : Int) } ++ l).drop 2) 14, fly ((headB { h with len := 20 + (l.length : Int) } ++ l).drop 2) 14] := sealS_bytes (flx_bound _ _) (fly_bound _ _)
/-- What was sealed is whole. -/
theorem seal_whole (h : HV) (l : List Int) : whole ((headB (sealH h l) ++ l).drop 2) = true := by
  have e : sealH h l = { { h with len := 20 + (l.length : Int) } with sum := sealS h l } := rfl
  rw [e, head_laid _ l _ _ _ (sealS_num h l)]
  exact whole_laid _ 14 (by rw [length_head2]; omega)
/-- Sealing it again changes nothing. -/
theorem seal_again (h : HV) (l : List Int) : sealH (sealH h l) l = sealH h l := by
  have e : sealS (sealH h l) l = sealS h l := by
    have e1 : (headB { sealH h l with len := 20 + (l.length : Int) } ++ l).drop 2 = laid ((headB { h with len := 20 + (l.length : Int) } ++ l).drop 2) 14 (flx ((headB { h with len := 20 + (l.length : Int) } ++ l).drop 2) 14) (fly ((headB { h with len := 20 + (l.length : Int) } ++ l).drop 2) 14) :=
      head_laid { h with len := 20 + (l.length : Int) } l _ _ _ (sealS_num h l)
    unfold sealS
    rw [e1, flx_laid, fly_laid]
  unfold sealH at *
  dsimp only at *
  rw [e]
theorem seal_all {h : HV} (ok : h.All) {l : List Int} (hl : l.length ≤ 65515) : (sealH h l).All := by
  obtain ⟨a, o, t, i, v, s, m, n⟩ := ok
  have := sealS_bound h l
  exact ⟨a, o, t, i, v, s, ⟨by show 0 ≤ sealS h l; omega, by show sealS h l < 65536; omega⟩, ⟨by show 0 ≤ 20 + (l.length : Int); omega, by show 20 + (l.length : Int) < 65536; omega⟩⟩
theorem all_age {h : HV} (ok : h.All) {a : Int} (ha : 0 ≤ a ∧ a < 65536) : { h with age := a }.All := by
  obtain ⟨_, o, t, i, v, s, m, n⟩ := ok
  exact ⟨ha, o, t, i, v, s, m, n⟩
/-- What Check says of it at an age. -/
theorem chk_age {h : HV} {B : BV} (ok : B.Ok) (he : EncOk h.typ B) (a : Int) : chkE { sealH h (layB h.typ B) with age := a } (layB h.typ B) = if h.seq = -2147483648 ∨ ¬ bits BinOp.andNot .u16 a 32768 ≤ 3600 then 24 else 0 := by
  have hd : decB h.typ (layB h.typ B) = some B := decB_layB ok ((mayB_iff _ _).1 he.may)
  have hb := sealS_bound h (layB h.typ B)
  have hw := seal_whole h (layB h.typ B)
  generalize layB h.typ B = l at *
  unfold chkE
  rw [head_age, hw]
  have e1 : (sealH h l).len = 20 + (l.length : Int) := rfl
  have e2 : (sealH h l).sum = sealS h l := rfl
  have e3 : (sealH h l).typ = h.typ := rfl
  have e4 : (sealH h l).seq = h.seq := rfl
  dsimp only
  rw [e1, e2, e3, e4, hd]
  rw [if_neg (by omega), if_neg (by rintro (q | q); omega; cases q), if_neg (by rw [he.known]; decide)]
  split
  · rfl
  · rw [if_neg (by simp)]
end Go.Proofs.Ytfdpmlogieaiaaa

namespace Go.Proofs.Ytfdpmlogieaiaaa
open Go.RowKit
set_option linter.unusedVariables false
set_option maxRecDepth 100000

def lvH : HV := ⟨0, 0, 3, 0, 0, 1, 0, 0⟩
def lvH6 : HV := ⟨0, 0, 6, 0, 0, 0, 0, 0⟩
def lvB : BV := ⟨0, [], 4294967040, [], 10, false, 0, 0, []⟩
def lvL : List Int := [255, 255, 255, 0, 0, 0, 0, 10]
theorem lvH_all : lvH.All := by constructor <;> decide
theorem lvH6_all : lvH6.All := by constructor <;> decide
theorem lvB_ok : lvB.Ok := by constructor <;> simp [lvB]
theorem lvZ_ok : BV.zero.Ok := by constructor <;> simp [BV.zero]
theorem lvB_light : Light lvB := ⟨by decide, by decide, by decide⟩
theorem lvZ_light : Light BV.zero := ⟨by decide, by decide, by decide⟩
theorem lv_mask : pbok 4294967040 = true := by decide +kernel
theorem lv_lay : layB lvH.typ lvB = lvL := by decide +kernel
theorem lv_byte : ∀ z ∈ lvL, 0 ≤ z ∧ z < 256 := by decide
theorem lv_encok : EncOk lvH.typ lvB := ⟨by decide, (mayB_iff _ _).2 ⟨by decide, by decide, by decide, by decide, by decide, by decide, lv_mask, by decide, by decide, by decide, by simp [lvB]⟩, by rw [lv_lay]; decide⟩
theorem nil_barg (w : World) (B : BV) (h1 : B.links = []) (h3 : B.routers = []) (h8 : B.data = []) : BArg w B (.slice none B.links.length 0) (.slice none B.routers.length 0) (.slice none B.data.length 0) := by
  rw [h1, h3, h8]
  refine ⟨?_, ?_, ?_⟩
  · rw [h1]; exact ⟨rfl, Or.inl ⟨rfl, rfl⟩⟩
  · rw [h3]; exact ⟨rfl, Or.inl ⟨rfl, rfl⟩⟩
  · rw [h8]; exact Or.inl ⟨rfl, rfl⟩
theorem lv_enc (w : World) : Calls Try.prog 7 #[.agg #[.int .u16 0, .int .u8 0, .int .u8 3, .int .u32 0, .int .u32 0, .int .i32 1, .int .u16 0, .int .u16 0], .agg #[.int .u8 0, .slice none 0 0, .int .u32 4294967040, .slice none 0 0, .int .u32 10, .bool false, .int .u32 0, .int .u32 0, .slice none 0 0]] w fun e w' => ∃ u, e = .returned (.tuple #[(sealH lvH lvL).sv u, .int .i64 0]) ∧ Buf w w' u lvL := by
  have := encode_good lvH lvH_all lvB lvB_ok lvB_light none none none 0 0 0 w (nil_barg w lvB rfl rfl rfl) lv_encok
  rw [lv_lay] at this
  exact this
theorem lv_enc6 (w : World) : Calls Try.prog 7 #[.agg #[.int .u16 0, .int .u8 0, .int .u8 6, .int .u32 0, .int .u32 0, .int .i32 0, .int .u16 0, .int .u16 0], .agg #[.int .u8 0, .slice none 0 0, .int .u32 0, .slice none 0 0, .int .u32 0, .bool false, .int .u32 0, .int .u32 0, .slice none 0 0]] w fun e w' => e = .returned (.tuple #[.agg #[.int .u16 0, .int .u8 0, .int .u8 0, .int .u32 0, .int .u32 0, .int .i32 0, .int .u16 0, .int .u16 0, .slice none 0 0], .int .i64 21]) ∧ Touch (fun _ => False) w w' :=
  encode_bad lvH6 lvH6_all BV.zero lvZ_ok lvZ_light none none none 0 0 0 w (nil_barg w BV.zero rfl rfl rfl) (by decide)
theorem lv_whole : whole ((headB (sealH lvH lvL) ++ lvL).drop 2) = true := by decide +kernel
theorem lv_sum0 : sealS lvH lvL ≠ 0 := by decide +kernel
theorem lv_sealAll : (sealH lvH lvL).All := by
  refine ⟨by decide, by decide, by decide, by decide, by decide, by decide, ?_, by decide⟩
  show 0 ≤ sealS lvH lvL ∧ sealS lvH lvL < 65536
  decide +kernel
theorem lv_decB : decB 3 lvL = some lvB := by
  rw [← lv_lay]
  exact decB_layB lvB_ok ((mayB_iff _ _).1 lv_encok.may)
theorem lv_chkE : chkE (sealH lvH lvL) lvL = 0 := by
  have h5 : decB (sealH lvH lvL).typ lvL = some lvB := lv_decB
  unfold chkE
  rw [if_neg (by decide), if_neg (by rintro (q | q); exact lv_sum0 q; rw [lv_whole] at q; cases q), if_neg (by decide), if_neg (by decide), if_neg (by rw [h5]; simp)]
theorem lv_dec (u : Value) (w : World) (hv : ArgAt w u lvL) : Calls Try.prog 9 #[(sealH lvH lvL).sv u] w fun e w' => ∃ (a1 : Option Addr) (q1 : Nat) (a3 : Option Addr) (q3 : Nat) (a8 : Option Addr) (q8 : Nat), e = .returned (.tuple #[.agg #[.int .u8 0, .slice a1 0 q1, .int .u32 4294967040, .slice a3 0 q3, .int .u32 10, .bool false, .int .u32 0, .int .u32 0, .slice a8 0 q8], .int .i64 0]) ∧ Touch (fun _ => False) w w' := by
  refine (decode_good (sealH lvH lvL) lv_sealAll u lvL w lvB hv lv_byte (by decide) (by decide) lv_decB).mono ?_
  rintro e w' ⟨vl, vr, vd, rfl, o, t⟩
  obtain ⟨a1, q1, a3, q3, a8, q8, rfl, rfl, rfl⟩ := o.form
  exact ⟨a1, q1, a3, q3, a8, q8, rfl, t⟩
theorem lv_chk (u : Value) (w : World) (hv : ArgAt w u lvL) : Calls Try.prog 14 #[(sealH lvH lvL).sv u] w fun e w' => e = .returned (.int .i64 0) ∧ Touch (fun _ => False) w w' := by
  have := check_any (sealH lvH lvL) lv_sealAll u lvL w hv lv_byte (by decide)
  rwa [lv_chkE] at this
set_option maxHeartbeats 1000000 in
theorem lives6 (w : World) : Calls Try.prog 6 #[] w fun e w' => e = .returned (.bool true) ∧ Touch (fun _ => False) w w' := by
  go_enter Try.func6, Try.ntmps6
  go_wp2_with fail
  refine Calls.mono (lv_enc _) ?_
  rintro e w1 ⟨u, rfl, b1⟩
  obtain ⟨ua, uc, rfl⟩ := b1.form
  have HD := fun w h => lv_dec (.slice ua lvL.length uc) w h
  have HCk := fun w h => lv_chk (.slice ua lvL.length uc) w h
  have B1 : Hid (Buf w w1 (.slice ua lvL.length uc) lvL) := b1
  have e8 : lvL.length = 8 := rfl
  clear b1
  unfold HV.sv sealH at HD HCk ⊢
  simp only [lvH] at HD HCk ⊢
  generalize sealS _ lvL = SS at HD HCk ⊢
  have e28 : (20 : Int) + (lvL.length : Int) = 28 := rfl
  simp only [e28] at HD HCk ⊢
  simp only [e8] at HD HCk ⊢
  replace B1 : Hid (Buf w w1 (.slice ua 8 uc) lvL) := B1
  clear e28 e8
  have S1 : Sd (w1.alloc (.cells #[.int .u16 0, .int .u8 0, .int .u8 3, .int .u32 0, .int .u32 0, .int .i32 1, .int .u16 SS, .int .u16 28, .slice ua 8 uc] 34)) w1.heap.size ⟨0, 0, 3, 0, 0, 1, SS, 28⟩ (.slice ua 8 uc) := Sd.new w1 ⟨0, 0, 3, 0, 0, 1, SS, 28⟩ (.slice ua 8 uc) 34
  go_wp2_with fail
  refine Calls.mono (HD _ (B1.out.arg.keepN ((Touch.refl _ _).alloc _))) ?_
  rintro e w2 ⟨a1, q1, a3, q3, a8, q8, rfl, t2⟩
  have HS2 : Hid (Sd w2 w1.heap.size ⟨0, 0, 3, 0, 0, 1, SS, 28⟩ (.slice ua 8 uc)) := S1.keep t2
  have T2 : Hid (Touch (fun _ => False) w1 w2) := ((Touch.refl _ w1).alloc _).trans t2
  have m2 : (w2.alloc (.cells #[.int .u8 0, .slice a1 0 q1, .int .u32 4294967040, .slice a3 0 q3, .int .u32 10, .bool false, .int .u32 0, .int .u32 0, .slice a8 0 q8] 30)).cell? ⟨w2.heap.size, 4, none⟩ = some (.int .u32 10) := by simp [go_sem]
  clear S1 t2 HD
  go_wp2_with fail
  refine Calls.mono (lv_enc6 _) ?_
  rintro e w3 ⟨rfl, t3⟩
  have c3 := t3.cellN m2
  have T3 : Hid (Touch (fun _ => False) w1 w3) := (T2.out.alloc _).trans t3
  have h3 : w2.heap.size < w3.heap.size := lt_of_cell c3
  obtain ⟨⟨s0, s1, s2, s3, s4, s5, s6, s7⟩, s8⟩ := (HS2.out.keep ((Touch.refl _ _).alloc _)).keep t3
  dsimp only at s0 s1 s2 s3 s4 s5 s6 s7
  have h31 : w1.heap.size < w3.heap.size := lt_of_cell s0
  clear m2 t3 HS2 T2
  have hx1 : ¬ w1.heap.size = w3.heap.size := by omega
  have hx2 : ¬ w2.heap.size = w3.heap.size := by omega
  go_wp2_with fail
  refine Calls.mono (HCk _ ((B1.out.arg.keepN T3.out).keepN ((Touch.refl _ _).alloc _))) ?_
  rintro e w4 ⟨rfl, t4⟩
  have T4 : Hid (Touch (fun _ => False) w w4) := (B1.out.t.trans (T3.out.alloc _)).trans t4
  clear t4 HCk s0 s1 s2 s3 s4 s5 s6 s7 s8 c3
  go_wp2
  go_ret
  exact ⟨rfl, T4.out⟩
end Go.Proofs.Ytfdpmlogieaiaaa
