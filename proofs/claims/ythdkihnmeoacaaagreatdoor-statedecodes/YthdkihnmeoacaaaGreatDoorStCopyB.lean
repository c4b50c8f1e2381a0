/- Contracts: write by type; Encode of every head and body. -/
import Derived.Test.YthdkihnmeoacaaaGreatDoorStWriteAny
import Derived.Test.YthdkihnmeoacaaaGreatDoorStWOut
import Derived.Test.YthdkihnmeoacaaaGreatDoorStWLink
import Derived.Test.YthdkihnmeoacaaaGreatDoorStWNone
import Derived.Test.YthdkihnmeoacaaaGreatDoorStEnc
import Derived.Test.YthdkihnmeoacaaaGreatDoorStTypes
import Derived.Test.YthdkihnmeoacaaaGreatDoorStRRtr
import Derived.Test.YthdkihnmeoacaaaGreatDoorStaWr
import Derived.Deep.QuietTactic
namespace Go.Proofs.YthdkihnmeoacaaaGreatDoor
open Go.RowKit
set_option linter.unusedVariables false
set_option maxRecDepth 100000

/-- A body's rows are no longer than a statement looks at. -/
structure Light (B : BV) : Prop where
  l : B.links.length ≤ 1000000
  r : B.routers.length ≤ 1000000
  d : B.data.length ≤ 1000000
theorem write_1 (B : BV) (ok : B.Ok) (lt : Light B) (a1 a3 a8 : Option Addr) (q1 q3 q8 : Nat) (w : World) (hA : BArg w B (.slice a1 B.links.length q1) (.slice a3 B.routers.length q3) (.slice a8 B.data.length q8)) : Calls Tryz.prog 39 #[.int .u8 1, .agg #[.int .u8 B.flags, .slice a1 B.links.length q1, .int .u32 B.mask, .slice a3 B.routers.length q3, .int .u32 B.metric, .bool B.type2, .int .u32 B.fwd, .int .u32 B.tag, .slice a8 B.data.length q8]] w (WAns 1 B w) := by
  obtain ⟨hl, hr, hd⟩ := lt
  exact writeB_any 118 119 (fun _ _ => rfl) (fun _ => by kernel_rfl) 1 B ok a1 a3 a8 q1 q3 q8 w hA ⟨by omega, by omega, by omega⟩ pairOf_1 (fun X b g w hw hg hB hA => wrtr_any X b g [] 65515 B a1 a3 a8 q1 q3 q8 ok w hw (by omega) hg hB (fun w' k => (hA w' k).l))
theorem write_2 (B : BV) (ok : B.Ok) (lt : Light B) (a1 a3 a8 : Option Addr) (q1 q3 q8 : Nat) (w : World) (hA : BArg w B (.slice a1 B.links.length q1) (.slice a3 B.routers.length q3) (.slice a8 B.data.length q8)) : Calls Tryz.prog 39 #[.int .u8 2, .agg #[.int .u8 B.flags, .slice a1 B.links.length q1, .int .u32 B.mask, .slice a3 B.routers.length q3, .int .u32 B.metric, .bool B.type2, .int .u32 B.fwd, .int .u32 B.tag, .slice a8 B.data.length q8]] w (WAns 2 B w) := by
  obtain ⟨hl, hr, hd⟩ := lt
  exact writeB_any 120 121 (fun _ _ => rfl) (fun _ => by kernel_rfl) 2 B ok a1 a3 a8 q1 q3 q8 w hA ⟨by omega, by omega, by omega⟩ pairOf_2 (fun X b g w hw hg hB hA => wnet_any X b g [] 65515 B a1 a3 a8 q1 q3 q8 ok w hw (by omega) hg hB (fun w' k => (hA w' k).r))
theorem write_3 (B : BV) (ok : B.Ok) (lt : Light B) (a1 a3 a8 : Option Addr) (q1 q3 q8 : Nat) (w : World) (hA : BArg w B (.slice a1 B.links.length q1) (.slice a3 B.routers.length q3) (.slice a8 B.data.length q8)) : Calls Tryz.prog 39 #[.int .u8 3, .agg #[.int .u8 B.flags, .slice a1 B.links.length q1, .int .u32 B.mask, .slice a3 B.routers.length q3, .int .u32 B.metric, .bool B.type2, .int .u32 B.fwd, .int .u32 B.tag, .slice a8 B.data.length q8]] w (WAns 3 B w) := by
  obtain ⟨hl, hr, hd⟩ := lt
  exact writeB_any 122 123 (fun _ _ => rfl) (fun _ => by kernel_rfl) 3 B ok a1 a3 a8 q1 q3 q8 w hA ⟨by omega, by omega, by omega⟩ pairOf_3 (fun X b g w hw hg hB hA => wsum_any X b g [] 65515 B a1 a3 a8 q1 q3 q8 ok w hw (by omega) hg hB)
theorem write_4 (B : BV) (ok : B.Ok) (lt : Light B) (a1 a3 a8 : Option Addr) (q1 q3 q8 : Nat) (w : World) (hA : BArg w B (.slice a1 B.links.length q1) (.slice a3 B.routers.length q3) (.slice a8 B.data.length q8)) : Calls Tryz.prog 39 #[.int .u8 4, .agg #[.int .u8 B.flags, .slice a1 B.links.length q1, .int .u32 B.mask, .slice a3 B.routers.length q3, .int .u32 B.metric, .bool B.type2, .int .u32 B.fwd, .int .u32 B.tag, .slice a8 B.data.length q8]] w (WAns 4 B w) := by
  obtain ⟨hl, hr, hd⟩ := lt
  exact writeB_any 124 125 (fun _ _ => rfl) (fun _ => by kernel_rfl) 4 B ok a1 a3 a8 q1 q3 q8 w hA ⟨by omega, by omega, by omega⟩ pairOf_4 (fun X b g w hw hg hB hA => wborder_any X b g [] 65515 B a1 a3 a8 q1 q3 q8 ok w hw (by omega) hg hB)
theorem write_5 (B : BV) (ok : B.Ok) (lt : Light B) (a1 a3 a8 : Option Addr) (q1 q3 q8 : Nat) (w : World) (hA : BArg w B (.slice a1 B.links.length q1) (.slice a3 B.routers.length q3) (.slice a8 B.data.length q8)) : Calls Tryz.prog 39 #[.int .u8 5, .agg #[.int .u8 B.flags, .slice a1 B.links.length q1, .int .u32 B.mask, .slice a3 B.routers.length q3, .int .u32 B.metric, .bool B.type2, .int .u32 B.fwd, .int .u32 B.tag, .slice a8 B.data.length q8]] w (WAns 5 B w) := by
  obtain ⟨hl, hr, hd⟩ := lt
  exact writeB_any 114 115 (fun _ _ => rfl) (fun _ => by kernel_rfl) 5 B ok a1 a3 a8 q1 q3 q8 w hA ⟨by omega, by omega, by omega⟩ pairOf_5 (fun X b g w hw hg hB hA => wouter_any 5 (by omega) X b g [] 65515 B a1 a3 a8 q1 q3 q8 ok w hw (by omega) hg hB)
theorem write_7 (B : BV) (ok : B.Ok) (lt : Light B) (a1 a3 a8 : Option Addr) (q1 q3 q8 : Nat) (w : World) (hA : BArg w B (.slice a1 B.links.length q1) (.slice a3 B.routers.length q3) (.slice a8 B.data.length q8)) : Calls Tryz.prog 39 #[.int .u8 7, .agg #[.int .u8 B.flags, .slice a1 B.links.length q1, .int .u32 B.mask, .slice a3 B.routers.length q3, .int .u32 B.metric, .bool B.type2, .int .u32 B.fwd, .int .u32 B.tag, .slice a8 B.data.length q8]] w (WAns 7 B w) := by
  obtain ⟨hl, hr, hd⟩ := lt
  exact writeB_any 114 115 (fun _ _ => rfl) (fun _ => by kernel_rfl) 7 B ok a1 a3 a8 q1 q3 q8 w hA ⟨by omega, by omega, by omega⟩ pairOf_7 (fun X b g w hw hg hB hA => wouter_any 7 (by omega) X b g [] 65515 B a1 a3 a8 q1 q3 q8 ok w hw (by omega) hg hB)
theorem write_9 (B : BV) (ok : B.Ok) (lt : Light B) (a1 a3 a8 : Option Addr) (q1 q3 q8 : Nat) (w : World) (hA : BArg w B (.slice a1 B.links.length q1) (.slice a3 B.routers.length q3) (.slice a8 B.data.length q8)) : Calls Tryz.prog 39 #[.int .u8 9, .agg #[.int .u8 B.flags, .slice a1 B.links.length q1, .int .u32 B.mask, .slice a3 B.routers.length q3, .int .u32 B.metric, .bool B.type2, .int .u32 B.fwd, .int .u32 B.tag, .slice a8 B.data.length q8]] w (WAns 9 B w) := by
  obtain ⟨hl, hr, hd⟩ := lt
  exact writeB_any 116 117 (fun _ _ => rfl) (fun _ => by kernel_rfl) 9 B ok a1 a3 a8 q1 q3 q8 w hA ⟨by omega, by omega, by omega⟩ pairOf_9 (fun X b g w hw hg hB hA => wopaque_any 9 (by omega) X b g [] 65515 B a1 a3 a8 q1 q3 q8 ok w hw (by omega) hg hB (fun w' k => (hA w' k).d) (by omega))
theorem write_10 (B : BV) (ok : B.Ok) (lt : Light B) (a1 a3 a8 : Option Addr) (q1 q3 q8 : Nat) (w : World) (hA : BArg w B (.slice a1 B.links.length q1) (.slice a3 B.routers.length q3) (.slice a8 B.data.length q8)) : Calls Tryz.prog 39 #[.int .u8 10, .agg #[.int .u8 B.flags, .slice a1 B.links.length q1, .int .u32 B.mask, .slice a3 B.routers.length q3, .int .u32 B.metric, .bool B.type2, .int .u32 B.fwd, .int .u32 B.tag, .slice a8 B.data.length q8]] w (WAns 10 B w) := by
  obtain ⟨hl, hr, hd⟩ := lt
  exact writeB_any 116 117 (fun _ _ => rfl) (fun _ => by kernel_rfl) 10 B ok a1 a3 a8 q1 q3 q8 w hA ⟨by omega, by omega, by omega⟩ pairOf_10 (fun X b g w hw hg hB hA => wopaque_any 10 (by omega) X b g [] 65515 B a1 a3 a8 q1 q3 q8 ok w hw (by omega) hg hB (fun w' k => (hA w' k).d) (by omega))
theorem write_11 (B : BV) (ok : B.Ok) (lt : Light B) (a1 a3 a8 : Option Addr) (q1 q3 q8 : Nat) (w : World) (hA : BArg w B (.slice a1 B.links.length q1) (.slice a3 B.routers.length q3) (.slice a8 B.data.length q8)) : Calls Tryz.prog 39 #[.int .u8 11, .agg #[.int .u8 B.flags, .slice a1 B.links.length q1, .int .u32 B.mask, .slice a3 B.routers.length q3, .int .u32 B.metric, .bool B.type2, .int .u32 B.fwd, .int .u32 B.tag, .slice a8 B.data.length q8]] w (WAns 11 B w) := by
  obtain ⟨hl, hr, hd⟩ := lt
  exact writeB_any 116 117 (fun _ _ => rfl) (fun _ => by kernel_rfl) 11 B ok a1 a3 a8 q1 q3 q8 w hA ⟨by omega, by omega, by omega⟩ pairOf_11 (fun X b g w hw hg hB hA => wopaque_any 11 (by omega) X b g [] 65515 B a1 a3 a8 q1 q3 q8 ok w hw (by omega) hg hB (fun w' k => (hA w' k).d) (by omega))
theorem writeT {t : Int} (hk : knownB t = true) (B : BV) (ok : B.Ok) (lt : Light B) (a1 a3 a8 : Option Addr) (q1 q3 q8 : Nat) (w : World) (hA : BArg w B (.slice a1 B.links.length q1) (.slice a3 B.routers.length q3) (.slice a8 B.data.length q8)) : Calls Tryz.prog 39 #[.int .u8 t, .agg #[.int .u8 B.flags, .slice a1 B.links.length q1, .int .u32 B.mask, .slice a3 B.routers.length q3, .int .u32 B.metric, .bool B.type2, .int .u32 B.fwd, .int .u32 B.tag, .slice a8 B.data.length q8]] w (WAns t B w) := by
  rcases known_cases hk with rfl | rfl | rfl | rfl | rfl | rfl | rfl | rfl | rfl
  · exact write_1 B ok lt a1 a3 a8 q1 q3 q8 w hA
  · exact write_2 B ok lt a1 a3 a8 q1 q3 q8 w hA
  · exact write_3 B ok lt a1 a3 a8 q1 q3 q8 w hA
  · exact write_4 B ok lt a1 a3 a8 q1 q3 q8 w hA
  · exact write_5 B ok lt a1 a3 a8 q1 q3 q8 w hA
  · exact write_7 B ok lt a1 a3 a8 q1 q3 q8 w hA
  · exact write_9 B ok lt a1 a3 a8 q1 q3 q8 w hA
  · exact write_10 B ok lt a1 a3 a8 q1 q3 q8 w hA
  · exact write_11 B ok lt a1 a3 a8 q1 q3 q8 w hA
/-- What Encode tells of what it refuses. -/
def encE (t : Int) (B : BV) : Int := if knownB t = false then 21 else if mayB t B = false then 28 else if 65515 < (layB t B).length then 11 else 0
structure EncOk (t : Int) (B : BV) : Prop where
  known : knownB t = true
  may : mayB t B = true
  len : (layB t B).length ≤ 65515
theorem encE_ok {t : Int} {B : BV} (h : encE t B = 0) : EncOk t B := by
  unfold encE at h
  split at h
  · omega
  · rename_i h1
    split at h
    · omega
    · rename_i h2
      split at h
      · omega
      · exact ⟨by simpa using h1, by simpa using h2, by omega⟩
theorem EncOk.zero {t : Int} {B : BV} (h : EncOk t B) : encE t B = 0 := by
  have := h.len
  simp [encE, h.known, h.may]
  omega
theorem encode_good (h : HV) (ok : h.All) (B : BV) (okb : B.Ok) (lt : Light B) (a1 a3 a8 : Option Addr) (q1 q3 q8 : Nat) (w : World) (hA : BArg w B (.slice a1 B.links.length q1) (.slice a3 B.routers.length q3) (.slice a8 B.data.length q8)) (he : EncOk h.typ B) :
    Calls Tryz.prog 9 #[h.v, B.v (.slice a1 B.links.length q1) (.slice a3 B.routers.length q3) (.slice a8 B.data.length q8)] w fun e w' => ∃ u, e = .returned (.tuple #[(sealH h (layB h.typ B)).sv u, .int .i64 0]) ∧ Buf w w' u (layB h.typ B) :=
  encode_ok h ok B a1 a3 a8 B.links.length q1 B.routers.length q3 B.data.length q8 (layB h.typ B) w (layB_byte okb) he.len (fun w' t => (writeT he.known B okb lt a1 a3 a8 q1 q3 q8 w' (hA.keep t)).mono (by
    rintro e w'' (⟨-, -, u, rfl, b⟩ | ⟨h1, -, -⟩ | ⟨-, h2, -, -⟩)
    · exact ⟨u, rfl, b⟩
    · rw [he.may] at h1; cases h1
    · have := he.len; omega))
theorem encode_bad (h : HV) (ok : h.All) (B : BV) (okb : B.Ok) (lt : Light B) (a1 a3 a8 : Option Addr) (q1 q3 q8 : Nat) (w : World) (hA : BArg w B (.slice a1 B.links.length q1) (.slice a3 B.routers.length q3) (.slice a8 B.data.length q8)) (he : encE h.typ B ≠ 0) :
    Calls Tryz.prog 9 #[h.v, B.v (.slice a1 B.links.length q1) (.slice a3 B.routers.length q3) (.slice a8 B.data.length q8)] w fun e w' => e = .returned (.tuple #[.agg #[.int .u16 0, .int .u8 0, .int .u8 0, .int .u32 0, .int .u32 0, .int .i32 0, .int .u16 0, .int .u16 0, .slice none 0 0], .int .i64 (encE h.typ B)]) ∧ Touch (fun _ => False) w w' := by
  refine encode_no h B a1 a3 a8 B.links.length q1 B.routers.length q3 B.data.length q8 (encE h.typ B) w (fun w' t => ?_)
  cases hk : knownB h.typ with
  | false =>
    have e : encE h.typ B = 21 := by simp [encE, hk]
    rw [e]
    exact write_none B h.typ a1 a3 a8 B.links.length q1 B.routers.length q3 B.data.length q8 w' (fun w => typeNone ok.t.1 ok.t.2 hk w)
  | true =>
    refine (writeT hk B okb lt a1 a3 a8 q1 q3 q8 w' (hA.keep t)).mono ?_
    rintro e w'' (⟨h1, h2, -⟩ | ⟨h1, rfl, t'⟩ | ⟨h1, h2, rfl, t'⟩)
    · exact absurd (EncOk.zero ⟨hk, h1, h2⟩) he
    · have e : encE h.typ B = 28 := by simp [encE, hk, h1]
      rw [e]
      exact ⟨rfl, t'⟩
    · have e : encE h.typ B = 11 := by simp [encE, hk, h1, h2]
      rw [e]
      exact ⟨rfl, t'⟩
end Go.Proofs.YthdkihnmeoacaaaGreatDoor

namespace Go.Proofs.YthdkihnmeoacaaaGreatDoor
open Go.RowKit
set_option linter.unusedVariables false
set_option maxRecDepth 100000

set_option maxHeartbeats 1000000 in
theorem elinks_true (va vb : Value) (l : List LV) (w : World) (ha : LinksAt w va l) (hb : LinksAt w vb l) :
    Calls Tryz.prog 44 #[va, vb] w fun e w' => e = .returned (.bool true) ∧ ∃ n, w' = w.drewN n := by
  obtain ⟨aa, ca, rfl, hm⟩ := ValsAt.form ha
  obtain ⟨ab, cb, rfl, _⟩ := ValsAt.form hb
  unfold maxLen at hm
  have HA : Hid (LinksAt w (.slice aa l.length ca) l) := ha
  have HB : Hid (LinksAt w (.slice ab l.length cb) l) := hb
  clear ha hb
  go_enter Tryz.func44, Tryz.ntmps44
  go_wp2
  go_loopw [5] (fun i wr => ∃ k nd : Nat, k ≤ l.length ∧ i = .int .i64 k ∧ wr = w.drewN nd) (fun i _ => l.length - (intOf i).toNat)
  case atStart => exact ⟨0, 0, Nat.zero_le _, rfl, rfl⟩
  case round =>
    obtain ⟨j, nd, hk, rfl, rfl⟩ := hrel
    by_cases hlt : j < l.length
    · obtain ⟨x, hx⟩ : ∃ x, l[j]? = some x := ⟨l[j], by simp [hlt]⟩
      obtain ⟨ga, oa, _, ea, -, -, za⟩ := ValsAt.cells HA.out (by omega) (by omega)
      obtain ⟨gb, ob, _, eb, -, -, zb⟩ := ValsAt.cells HB.out (by omega) (by omega)
      cases ea
      cases eb
      have pa : ∀ i u, i < 4 → x.cells[i]? = some u → w.cell? ⟨ga, oa + (j * 4 + i), none⟩ = some u := fun i u hi hu => za (j * 4 + i) u (by rw [linksC_at l j i x hx hi]; exact hu)
      have pb : ∀ i u, i < 4 → x.cells[i]? = some u → w.cell? ⟨gb, ob + (j * 4 + i), none⟩ = some u := fun i u hi hu => zb (j * 4 + i) u (by rw [linksC_at l j i x hx hi]; exact hu)
      have ha0 : w.cell? ⟨ga, oa + j * 4, none⟩ = some (.int .u32 x.id) := pa 0 _ (by omega) rfl
      have ha1 : w.cell? ⟨ga, oa + j * 4 + 1, none⟩ = some (.int .u32 x.data) := by rw [Nat.add_assoc]; exact pa 1 _ (by omega) rfl
      have ha2 : w.cell? ⟨ga, oa + j * 4 + 2, none⟩ = some (.int .u8 x.typ) := by rw [Nat.add_assoc]; exact pa 2 _ (by omega) rfl
      have ha3 : w.cell? ⟨ga, oa + j * 4 + 3, none⟩ = some (.int .u16 x.cost) := by rw [Nat.add_assoc]; exact pa 3 _ (by omega) rfl
      have hb0 : w.cell? ⟨gb, ob + j * 4, none⟩ = some (.int .u32 x.id) := pb 0 _ (by omega) rfl
      have hb1 : w.cell? ⟨gb, ob + j * 4 + 1, none⟩ = some (.int .u32 x.data) := by rw [Nat.add_assoc]; exact pb 1 _ (by omega) rfl
      have hb2 : w.cell? ⟨gb, ob + j * 4 + 2, none⟩ = some (.int .u8 x.typ) := by rw [Nat.add_assoc]; exact pb 2 _ (by omega) rfl
      have hb3 : w.cell? ⟨gb, ob + j * 4 + 3, none⟩ = some (.int .u16 x.cost) := by rw [Nat.add_assoc]; exact pb 3 _ (by omega) rfl
      clear za zb pa pb hx HA HB
      go_wp2
      go_quiet (fail)
      go_wp2
      go_roundw
      case rel => exact ⟨j + 1, _, by omega, by go_num, rfl⟩
      case measure => simp [intOf]; omega
    · go_wp2
      go_ret
      exact ⟨rfl, nd, rfl⟩
set_option maxHeartbeats 1000000 in
theorem ewords_true (va vb : Value) (l : List Int) (w : World) (ha : WordsAt w va l) (hb : WordsAt w vb l) :
    Calls Tryz.prog 45 #[va, vb] w fun e w' => e = .returned (.bool true) ∧ ∃ n, w' = w.drewN n := by
  obtain ⟨aa, ca, rfl, hm⟩ := ValsAt.form ha
  obtain ⟨ab, cb, rfl, _⟩ := ValsAt.form hb
  unfold maxLen at hm
  have HA : Hid (WordsAt w (.slice aa l.length ca) l) := ha
  have HB : Hid (WordsAt w (.slice ab l.length cb) l) := hb
  clear ha hb
  go_enter Tryz.func45, Tryz.ntmps45
  go_wp2
  go_loopw [5] (fun i wr => ∃ k nd : Nat, k ≤ l.length ∧ i = .int .i64 k ∧ wr = w.drewN nd) (fun i _ => l.length - (intOf i).toNat)
  case atStart => exact ⟨0, 0, Nat.zero_le _, rfl, rfl⟩
  case round =>
    obtain ⟨j, nd, hk, rfl, rfl⟩ := hrel
    by_cases hlt : j < l.length
    · obtain ⟨x, hx⟩ : ∃ x, l[j]? = some x := ⟨l[j], by simp [hlt]⟩
      obtain ⟨ga, oa, _, ea, -, -, za⟩ := ValsAt.cells HA.out (by omega) (by omega)
      obtain ⟨gb, ob, _, eb, -, -, zb⟩ := ValsAt.cells HB.out (by omega) (by omega)
      cases ea
      cases eb
      have pa : ∀ (i : Nat) u, i < 1 → [Value.int .u32 x][i]? = some u → w.cell? ⟨ga, oa + j, none⟩ = some u := fun i u hi hu => za j u (by have hi0 : i = 0 := (by omega); subst hi0; simpa [wordsC, hx] using hu)
      have pb : ∀ (i : Nat) u, i < 1 → [Value.int .u32 x][i]? = some u → w.cell? ⟨gb, ob + j, none⟩ = some u := fun i u hi hu => zb j u (by have hi0 : i = 0 := (by omega); subst hi0; simpa [wordsC, hx] using hu)
      have ha0 : w.cell? ⟨ga, oa + j, none⟩ = some (.int .u32 x) := pa 0 _ (by omega) rfl
      have hb0 : w.cell? ⟨gb, ob + j, none⟩ = some (.int .u32 x) := pb 0 _ (by omega) rfl
      clear za zb pa pb hx HA HB
      go_wp2
      go_quiet (fail)
      go_wp2
      go_roundw
      case rel => exact ⟨j + 1, _, by omega, by go_num, rfl⟩
      case measure => simp [intOf]; omega
    · go_wp2
      go_ret
      exact ⟨rfl, nd, rfl⟩
theorem OutB.put1 {w : World} {g : Nat} {b : BV} {vl vr vd : Value} (k : OutB w g b vl vr vd) (u : Value) : OutB (w.setCell ⟨g, 1, none⟩ u) g b u vr vd := k.row1 b.links u
theorem OutB.put3 {w : World} {g : Nat} {b : BV} {vl vr vd : Value} (k : OutB w g b vl vr vd) (u : Value) : OutB (w.setCell ⟨g, 3, none⟩ u) g b vl u vd := k.row3 b.routers u
theorem OutB.put8 {w : World} {g : Nat} {b : BV} {vl vr vd : Value} (k : OutB w g b vl vr vd) (u : Value) : OutB (w.setCell ⟨g, 8, none⟩ u) g b vl vr u := by
  obtain ⟨⟨c0, c1, c2, c3, c4, c5, c6, c7, c8⟩, fz⟩ := k
  exact ⟨⟨by simp [c0, go_sem], by simp [c1, go_sem], by simp [c2, go_sem], by simp [c3, go_sem], by simp [c4, go_sem], by simp [c5, go_sem], by simp [c6, go_sem], by simp [c7, go_sem], by simp [c8, go_sem]⟩, fun i hi => by simp [fz i hi, go_sem]⟩
set_option maxHeartbeats 2000000 in
/-- Two bodies that are the same. -/
theorem ebody_true (B : BV) (a1 a3 a8 c1 c3 c8 : Option Addr) (q1 q3 q8 r1 r3 r8 : Nat) (w : World) (h1 : BArg w B (.slice a1 B.links.length q1) (.slice a3 B.routers.length q3) (.slice a8 B.data.length q8)) (hr1 : RowAt w (.slice a8 B.data.length q8) B.data) (h2 : BArg w B (.slice c1 B.links.length r1) (.slice c3 B.routers.length r3) (.slice c8 B.data.length r8)) : Calls Tryz.prog 12 #[B.v (.slice a1 B.links.length q1) (.slice a3 B.routers.length q3) (.slice a8 B.data.length q8), B.v (.slice c1 B.links.length r1) (.slice c3 B.routers.length r3) (.slice c8 B.data.length r8)] w fun e w' => e = .returned (.bool true) ∧ Touch (fun _ => False) w w' := by
  have HA : Hid (BArg w B (.slice a1 B.links.length q1) (.slice a3 B.routers.length q3) (.slice a8 B.data.length q8)) := h1
  have HC : Hid (BArg w B (.slice c1 B.links.length r1) (.slice c3 B.routers.length r3) (.slice c8 B.data.length r8)) := h2
  have HR : Hid (RowAt w (.slice a8 B.data.length q8) B.data) := hr1
  clear h1 h2 hr1
  show Calls Tryz.prog 12 #[.agg #[.int .u8 B.flags, .slice a1 B.links.length q1, .int .u32 B.mask, .slice a3 B.routers.length q3, .int .u32 B.metric, .bool B.type2, .int .u32 B.fwd, .int .u32 B.tag, .slice a8 B.data.length q8], .agg #[.int .u8 B.flags, .slice c1 B.links.length r1, .int .u32 B.mask, .slice c3 B.routers.length r3, .int .u32 B.metric, .bool B.type2, .int .u32 B.fwd, .int .u32 B.tag, .slice c8 B.data.length r8]] w _
  have T0 : Hid (Touch (fun _ => False) w ((w.alloc (.cells #[.int .u8 B.flags, .slice a1 B.links.length q1, .int .u32 B.mask, .slice a3 B.routers.length q3, .int .u32 B.metric, .bool B.type2, .int .u32 B.fwd, .int .u32 B.tag, .slice a8 B.data.length q8] 30)).alloc (.cells #[.int .u8 B.flags, .slice c1 B.links.length r1, .int .u32 B.mask, .slice c3 B.routers.length r3, .int .u32 B.metric, .bool B.type2, .int .u32 B.fwd, .int .u32 B.tag, .slice c8 B.data.length r8] 30))) := ((Touch.refl _ w).alloc _).alloc _
  have O1 : Hid (Bd ((w.alloc (.cells #[.int .u8 B.flags, .slice a1 B.links.length q1, .int .u32 B.mask, .slice a3 B.routers.length q3, .int .u32 B.metric, .bool B.type2, .int .u32 B.fwd, .int .u32 B.tag, .slice a8 B.data.length q8] 30)).alloc (.cells #[.int .u8 B.flags, .slice c1 B.links.length r1, .int .u32 B.mask, .slice c3 B.routers.length r3, .int .u32 B.metric, .bool B.type2, .int .u32 B.fwd, .int .u32 B.tag, .slice c8 B.data.length r8] 30)) w.heap.size B (.slice a1 B.links.length q1) (.slice a3 B.routers.length q3) (.slice a8 B.data.length q8)) := (Bd.new w B (.slice a1 B.links.length q1) (.slice a3 B.routers.length q3) (.slice a8 B.data.length q8) 30).keep ((Touch.refl _ _).alloc _)
  have O2 : Hid (Bd ((w.alloc (.cells #[.int .u8 B.flags, .slice a1 B.links.length q1, .int .u32 B.mask, .slice a3 B.routers.length q3, .int .u32 B.metric, .bool B.type2, .int .u32 B.fwd, .int .u32 B.tag, .slice a8 B.data.length q8] 30)).alloc (.cells #[.int .u8 B.flags, .slice c1 B.links.length r1, .int .u32 B.mask, .slice c3 B.routers.length r3, .int .u32 B.metric, .bool B.type2, .int .u32 B.fwd, .int .u32 B.tag, .slice c8 B.data.length r8] 30)) (w.heap.size + 1) B (.slice c1 B.links.length r1) (.slice c3 B.routers.length r3) (.slice c8 B.data.length r8)) := by
    have := Bd.new (w.alloc (.cells #[.int .u8 B.flags, .slice a1 B.links.length q1, .int .u32 B.mask, .slice a3 B.routers.length q3, .int .u32 B.metric, .bool B.type2, .int .u32 B.fwd, .int .u32 B.tag, .slice a8 B.data.length q8] 30)) B (.slice c1 B.links.length r1) (.slice c3 B.routers.length r3) (.slice c8 B.data.length r8) 30
    show Bd _ _ _ _ _ _
    simpa using this
  go_enter Tryz.func12, Tryz.ntmps12
  go_upto_region 1 with fail
  generalize ((w.alloc (.cells #[.int .u8 B.flags, .slice a1 B.links.length q1, .int .u32 B.mask, .slice a3 B.routers.length q3, .int .u32 B.metric, .bool B.type2, .int .u32 B.fwd, .int .u32 B.tag, .slice a8 B.data.length q8] 30)).alloc (.cells #[.int .u8 B.flags, .slice c1 B.links.length r1, .int .u32 B.mask, .slice c3 B.routers.length r3, .int .u32 B.metric, .bool B.type2, .int .u32 B.fwd, .int .u32 B.tag, .slice c8 B.data.length r8] 30)) = w0 at *
  generalize w.heap.size + 1 = g2 at *
  generalize w.heap.size = g1 at *
  obtain ⟨d0, d1, d2, d3, d4, d5, d6, d7, d8⟩ := O1.out
  obtain ⟨e0, e1, e2, e3, e4, e5, e6, e7, e8⟩ := O2.out
  go_wp2_with fail
  refine Calls.mono (elinks_true _ _ B.links _ (HA.out.l.keep T0.out) (HC.out.l.keep T0.out)) ?_
  rintro e w1 ⟨rfl, n1, hw1⟩
  have t1 : Touch (fun _ => False) w0 w1 := hw1 ▸ (Touch.refl _ _).drewN n1
  have T1 : Hid (Touch (fun _ => False) w w1) := T0.out.trans t1
  have P1 : Hid (Bd w1 g1 B (.slice a1 B.links.length q1) (.slice a3 B.routers.length q3) (.slice a8 B.data.length q8)) := O1.out.keep t1
  have P2 : Hid (Bd w1 g2 B (.slice c1 B.links.length r1) (.slice c3 B.routers.length r3) (.slice c8 B.data.length r8)) := O2.out.keep t1
  clear hw1 t1 d0 d1 d2 d3 d4 d5 d6 d7 d8 e0 e1 e2 e3 e4 e5 e6 e7 e8 O1 O2 T0
  obtain ⟨d0, d1, d2, d3, d4, d5, d6, d7, d8⟩ := P1.out
  obtain ⟨e0, e1, e2, e3, e4, e5, e6, e7, e8⟩ := P2.out
  go_wp2_with fail
  refine Calls.mono (ewords_true _ _ B.routers _ (HA.out.r.keep T1.out) (HC.out.r.keep T1.out)) ?_
  rintro e w2 ⟨rfl, n2, hw2⟩
  have t2 : Touch (fun _ => False) w1 w2 := hw2 ▸ (Touch.refl _ _).drewN n2
  have T2 : Hid (Touch (fun _ => False) w w2) := T1.out.trans t2
  have Q1 : Hid (Bd w2 g1 B (.slice a1 B.links.length q1) (.slice a3 B.routers.length q3) (.slice a8 B.data.length q8)) := P1.out.keep t2
  have Q2 : Hid (Bd w2 g2 B (.slice c1 B.links.length r1) (.slice c3 B.routers.length r3) (.slice c8 B.data.length r8)) := P2.out.keep t2
  clear hw2 t2 d0 d1 d2 d3 d4 d5 d6 d7 d8 e0 e1 e2 e3 e4 e5 e6 e7 e8 P1 P2 T1
  obtain ⟨d0, d1, d2, d3, d4, d5, d6, d7, d8⟩ := Q1.out
  obtain ⟨e0, e1, e2, e3, e4, e5, e6, e7, e8⟩ := Q2.out
  go_wp2_with fail
  refine Calls.mono (eq_true _ _ B.data _ (HR.out.touch T2.out (fun _ _ h => h)) (HC.out.d.keepN T2.out)) ?_
  rintro e w3 ⟨rfl, n3, rfl⟩
  clear d0 d1 d2 d3 d4 d5 d6 d7 d8 e0 e1 e2 e3 e4 e5 e6 e7 e8
  go_wp2
  go_ret
  exact ⟨rfl, T2.out.drewN n3⟩
theorem heavy_yes (B : BV) (a1 a3 a8 : Option Addr) (q1 q3 q8 : Nat) (w : World) (h : 8192 < B.links.length ∨ 32768 < B.routers.length ∨ 131072 < B.data.length) : Calls Tryz.prog 6 #[B.v (.slice a1 B.links.length q1) (.slice a3 B.routers.length q3) (.slice a8 B.data.length q8)] w fun e w' => e = .returned (.bool true) ∧ Touch (fun _ => False) w w' := by
  show Calls Tryz.prog 6 #[.agg #[.int .u8 B.flags, .slice a1 B.links.length q1, .int .u32 B.mask, .slice a3 B.routers.length q3, .int .u32 B.metric, .bool B.type2, .int .u32 B.fwd, .int .u32 B.tag, .slice a8 B.data.length q8]] w _
  by_cases h1 : (8192 : Int) < (B.links.length : Int)
  · go_enter Tryz.func6, Tryz.ntmps6
    go_wp2
    go_ret
    exact ⟨rfl, (Touch.refl _ w).alloc _⟩
  · by_cases h2 : (32768 : Int) < (B.routers.length : Int)
    · go_enter Tryz.func6, Tryz.ntmps6
      go_wp2
      go_ret
      exact ⟨rfl, (Touch.refl _ w).alloc _⟩
    · have h3 : (131072 : Int) < (B.data.length : Int) := by omega
      go_enter Tryz.func6, Tryz.ntmps6
      go_wp2
      go_ret
      exact ⟨ret_bool (by simp), (Touch.refl _ w).alloc _⟩
theorem heavy_no (B : BV) (a1 a3 a8 : Option Addr) (q1 q3 q8 : Nat) (w : World) (h : ¬ (8192 < B.links.length ∨ 32768 < B.routers.length ∨ 131072 < B.data.length)) : Calls Tryz.prog 6 #[B.v (.slice a1 B.links.length q1) (.slice a3 B.routers.length q3) (.slice a8 B.data.length q8)] w fun e w' => e = .returned (.bool false) ∧ Touch (fun _ => False) w w' := by
  show Calls Tryz.prog 6 #[.agg #[.int .u8 B.flags, .slice a1 B.links.length q1, .int .u32 B.mask, .slice a3 B.routers.length q3, .int .u32 B.metric, .bool B.type2, .int .u32 B.fwd, .int .u32 B.tag, .slice a8 B.data.length q8]] w _
  have h1 : ¬ (8192 : Int) < (B.links.length : Int) := by omega
  have h2 : ¬ (32768 : Int) < (B.routers.length : Int) := by omega
  have h3 : ¬ (131072 : Int) < (B.data.length : Int) := by omega
  go_enter Tryz.func6, Tryz.ntmps6
  go_wp2
  go_ret
  exact ⟨ret_bool (by simp), (Touch.refl _ w).alloc _⟩
end Go.Proofs.YthdkihnmeoacaaaGreatDoor
