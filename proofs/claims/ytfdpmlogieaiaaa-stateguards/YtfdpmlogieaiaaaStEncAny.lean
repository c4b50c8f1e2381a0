/- Contracts: write by type; Encode of every head and body. -/
import Derived.Test.YtfdpmlogieaiaaaStWriteAny
import Derived.Test.YtfdpmlogieaiaaaStWOut
import Derived.Test.YtfdpmlogieaiaaaStWLink
import Derived.Test.YtfdpmlogieaiaaaStWNone
import Derived.Test.YtfdpmlogieaiaaaStEnc
import Derived.Test.YtfdpmlogieaiaaaStTypes
namespace Go.Proofs.Ytfdpmlogieaiaaa
open Go.RowKit
set_option linter.unusedVariables false
set_option maxRecDepth 100000

/-- A body's rows are no longer than a statement looks at. -/
structure Light (B : BV) : Prop where
  l : B.links.length ≤ 1000000
  r : B.routers.length ≤ 1000000
  d : B.data.length ≤ 1000000
theorem write_1 (B : BV) (ok : B.Ok) (lt : Light B) (a1 a3 a8 : Option Addr) (q1 q3 q8 : Nat) (w : World) (hA : BArg w B (.slice a1 B.links.length q1) (.slice a3 B.routers.length q3) (.slice a8 B.data.length q8)) : Calls Try.prog 20 #[.int .u8 1, .agg #[.int .u8 B.flags, .slice a1 B.links.length q1, .int .u32 B.mask, .slice a3 B.routers.length q3, .int .u32 B.metric, .bool B.type2, .int .u32 B.fwd, .int .u32 B.tag, .slice a8 B.data.length q8]] w (WAns 1 B w) := by
  obtain ⟨hl, hr, hd⟩ := lt
  exact writeB_any 64 65 (fun _ _ => rfl) (fun _ => by kernel_rfl) 1 B ok a1 a3 a8 q1 q3 q8 w hA ⟨by omega, by omega, by omega⟩ pairOf_1 (fun X b g w hw hg hB hA => wrtr_any X b g [] 65515 B a1 a3 a8 q1 q3 q8 ok w hw (by omega) hg hB (fun w' k => (hA w' k).l))
theorem write_2 (B : BV) (ok : B.Ok) (lt : Light B) (a1 a3 a8 : Option Addr) (q1 q3 q8 : Nat) (w : World) (hA : BArg w B (.slice a1 B.links.length q1) (.slice a3 B.routers.length q3) (.slice a8 B.data.length q8)) : Calls Try.prog 20 #[.int .u8 2, .agg #[.int .u8 B.flags, .slice a1 B.links.length q1, .int .u32 B.mask, .slice a3 B.routers.length q3, .int .u32 B.metric, .bool B.type2, .int .u32 B.fwd, .int .u32 B.tag, .slice a8 B.data.length q8]] w (WAns 2 B w) := by
  obtain ⟨hl, hr, hd⟩ := lt
  exact writeB_any 66 67 (fun _ _ => rfl) (fun _ => by kernel_rfl) 2 B ok a1 a3 a8 q1 q3 q8 w hA ⟨by omega, by omega, by omega⟩ pairOf_2 (fun X b g w hw hg hB hA => wnet_any X b g [] 65515 B a1 a3 a8 q1 q3 q8 ok w hw (by omega) hg hB (fun w' k => (hA w' k).r))
theorem write_3 (B : BV) (ok : B.Ok) (lt : Light B) (a1 a3 a8 : Option Addr) (q1 q3 q8 : Nat) (w : World) (hA : BArg w B (.slice a1 B.links.length q1) (.slice a3 B.routers.length q3) (.slice a8 B.data.length q8)) : Calls Try.prog 20 #[.int .u8 3, .agg #[.int .u8 B.flags, .slice a1 B.links.length q1, .int .u32 B.mask, .slice a3 B.routers.length q3, .int .u32 B.metric, .bool B.type2, .int .u32 B.fwd, .int .u32 B.tag, .slice a8 B.data.length q8]] w (WAns 3 B w) := by
  obtain ⟨hl, hr, hd⟩ := lt
  exact writeB_any 68 69 (fun _ _ => rfl) (fun _ => by kernel_rfl) 3 B ok a1 a3 a8 q1 q3 q8 w hA ⟨by omega, by omega, by omega⟩ pairOf_3 (fun X b g w hw hg hB hA => wsum_any X b g [] 65515 B a1 a3 a8 q1 q3 q8 ok w hw (by omega) hg hB)
theorem write_4 (B : BV) (ok : B.Ok) (lt : Light B) (a1 a3 a8 : Option Addr) (q1 q3 q8 : Nat) (w : World) (hA : BArg w B (.slice a1 B.links.length q1) (.slice a3 B.routers.length q3) (.slice a8 B.data.length q8)) : Calls Try.prog 20 #[.int .u8 4, .agg #[.int .u8 B.flags, .slice a1 B.links.length q1, .int .u32 B.mask, .slice a3 B.routers.length q3, .int .u32 B.metric, .bool B.type2, .int .u32 B.fwd, .int .u32 B.tag, .slice a8 B.data.length q8]] w (WAns 4 B w) := by
  obtain ⟨hl, hr, hd⟩ := lt
  exact writeB_any 70 71 (fun _ _ => rfl) (fun _ => by kernel_rfl) 4 B ok a1 a3 a8 q1 q3 q8 w hA ⟨by omega, by omega, by omega⟩ pairOf_4 (fun X b g w hw hg hB hA => wborder_any X b g [] 65515 B a1 a3 a8 q1 q3 q8 ok w hw (by omega) hg hB)
theorem write_5 (B : BV) (ok : B.Ok) (lt : Light B) (a1 a3 a8 : Option Addr) (q1 q3 q8 : Nat) (w : World) (hA : BArg w B (.slice a1 B.links.length q1) (.slice a3 B.routers.length q3) (.slice a8 B.data.length q8)) : Calls Try.prog 20 #[.int .u8 5, .agg #[.int .u8 B.flags, .slice a1 B.links.length q1, .int .u32 B.mask, .slice a3 B.routers.length q3, .int .u32 B.metric, .bool B.type2, .int .u32 B.fwd, .int .u32 B.tag, .slice a8 B.data.length q8]] w (WAns 5 B w) := by
  obtain ⟨hl, hr, hd⟩ := lt
  exact writeB_any 60 61 (fun _ _ => rfl) (fun _ => by kernel_rfl) 5 B ok a1 a3 a8 q1 q3 q8 w hA ⟨by omega, by omega, by omega⟩ pairOf_5 (fun X b g w hw hg hB hA => wouter_any 5 (by omega) X b g [] 65515 B a1 a3 a8 q1 q3 q8 ok w hw (by omega) hg hB)
theorem write_7 (B : BV) (ok : B.Ok) (lt : Light B) (a1 a3 a8 : Option Addr) (q1 q3 q8 : Nat) (w : World) (hA : BArg w B (.slice a1 B.links.length q1) (.slice a3 B.routers.length q3) (.slice a8 B.data.length q8)) : Calls Try.prog 20 #[.int .u8 7, .agg #[.int .u8 B.flags, .slice a1 B.links.length q1, .int .u32 B.mask, .slice a3 B.routers.length q3, .int .u32 B.metric, .bool B.type2, .int .u32 B.fwd, .int .u32 B.tag, .slice a8 B.data.length q8]] w (WAns 7 B w) := by
  obtain ⟨hl, hr, hd⟩ := lt
  exact writeB_any 60 61 (fun _ _ => rfl) (fun _ => by kernel_rfl) 7 B ok a1 a3 a8 q1 q3 q8 w hA ⟨by omega, by omega, by omega⟩ pairOf_7 (fun X b g w hw hg hB hA => wouter_any 7 (by omega) X b g [] 65515 B a1 a3 a8 q1 q3 q8 ok w hw (by omega) hg hB)
theorem write_9 (B : BV) (ok : B.Ok) (lt : Light B) (a1 a3 a8 : Option Addr) (q1 q3 q8 : Nat) (w : World) (hA : BArg w B (.slice a1 B.links.length q1) (.slice a3 B.routers.length q3) (.slice a8 B.data.length q8)) : Calls Try.prog 20 #[.int .u8 9, .agg #[.int .u8 B.flags, .slice a1 B.links.length q1, .int .u32 B.mask, .slice a3 B.routers.length q3, .int .u32 B.metric, .bool B.type2, .int .u32 B.fwd, .int .u32 B.tag, .slice a8 B.data.length q8]] w (WAns 9 B w) := by
  obtain ⟨hl, hr, hd⟩ := lt
  exact writeB_any 62 63 (fun _ _ => rfl) (fun _ => by kernel_rfl) 9 B ok a1 a3 a8 q1 q3 q8 w hA ⟨by omega, by omega, by omega⟩ pairOf_9 (fun X b g w hw hg hB hA => wopaque_any 9 (by omega) X b g [] 65515 B a1 a3 a8 q1 q3 q8 ok w hw (by omega) hg hB (fun w' k => (hA w' k).d) (by omega))
theorem write_10 (B : BV) (ok : B.Ok) (lt : Light B) (a1 a3 a8 : Option Addr) (q1 q3 q8 : Nat) (w : World) (hA : BArg w B (.slice a1 B.links.length q1) (.slice a3 B.routers.length q3) (.slice a8 B.data.length q8)) : Calls Try.prog 20 #[.int .u8 10, .agg #[.int .u8 B.flags, .slice a1 B.links.length q1, .int .u32 B.mask, .slice a3 B.routers.length q3, .int .u32 B.metric, .bool B.type2, .int .u32 B.fwd, .int .u32 B.tag, .slice a8 B.data.length q8]] w (WAns 10 B w) := by
  obtain ⟨hl, hr, hd⟩ := lt
  exact writeB_any 62 63 (fun _ _ => rfl) (fun _ => by kernel_rfl) 10 B ok a1 a3 a8 q1 q3 q8 w hA ⟨by omega, by omega, by omega⟩ pairOf_10 (fun X b g w hw hg hB hA => wopaque_any 10 (by omega) X b g [] 65515 B a1 a3 a8 q1 q3 q8 ok w hw (by omega) hg hB (fun w' k => (hA w' k).d) (by omega))
theorem write_11 (B : BV) (ok : B.Ok) (lt : Light B) (a1 a3 a8 : Option Addr) (q1 q3 q8 : Nat) (w : World) (hA : BArg w B (.slice a1 B.links.length q1) (.slice a3 B.routers.length q3) (.slice a8 B.data.length q8)) : Calls Try.prog 20 #[.int .u8 11, .agg #[.int .u8 B.flags, .slice a1 B.links.length q1, .int .u32 B.mask, .slice a3 B.routers.length q3, .int .u32 B.metric, .bool B.type2, .int .u32 B.fwd, .int .u32 B.tag, .slice a8 B.data.length q8]] w (WAns 11 B w) := by
  obtain ⟨hl, hr, hd⟩ := lt
  exact writeB_any 62 63 (fun _ _ => rfl) (fun _ => by kernel_rfl) 11 B ok a1 a3 a8 q1 q3 q8 w hA ⟨by omega, by omega, by omega⟩ pairOf_11 (fun X b g w hw hg hB hA => wopaque_any 11 (by omega) X b g [] 65515 B a1 a3 a8 q1 q3 q8 ok w hw (by omega) hg hB (fun w' k => (hA w' k).d) (by omega))
theorem writeT {t : Int} (hk : knownB t = true) (B : BV) (ok : B.Ok) (lt : Light B) (a1 a3 a8 : Option Addr) (q1 q3 q8 : Nat) (w : World) (hA : BArg w B (.slice a1 B.links.length q1) (.slice a3 B.routers.length q3) (.slice a8 B.data.length q8)) : Calls Try.prog 20 #[.int .u8 t, .agg #[.int .u8 B.flags, .slice a1 B.links.length q1, .int .u32 B.mask, .slice a3 B.routers.length q3, .int .u32 B.metric, .bool B.type2, .int .u32 B.fwd, .int .u32 B.tag, .slice a8 B.data.length q8]] w (WAns t B w) := by
  rcases known_cases hk with rfl | rfl | rfl | rfl | rfl | rfl | rfl | rfl | rfl
  · exact write_1 B ok lt a1 a3 a8 q1 q3 q8 w hA
  · exact write_2 B ok lt a1 a3 a8 q1 q3 q8 w hA
  · exact write_3 B ok lt a1 a3 a8 q1 q3 q8 w hA
  · exact write_4 B ok lt a1 a3 a8 q1 q3 q8 w hA
  · exact write_5 B ok lt a1 a3 a8 q1 q3 q8 w hA
  · exact write_7 B ok lt a1 a3 a8 q1 q3 q8 w hA
  · exact write_9 B ok lt a1 a3 a8 q1 q3 q8 w hA
  · exact write_10 B ok lt a1 a3 a8 q1 q3 q8 w hA
  · exact write_11 B ok lt a1 a3 a8 q1 q3 q8 w hA
/-- What Encode tells of what it refuses. -/
def encE (t : Int) (B : BV) : Int := if knownB t = false then 21 else if mayB t B = false then 28 else if 65515 < (layB t B).length then 11 else 0
structure EncOk (t : Int) (B : BV) : Prop where
  known : knownB t = true
  may : mayB t B = true
  len : (layB t B).length ≤ 65515
theorem encE_ok {t : Int} {B : BV} (h : encE t B = 0) : EncOk t B := by
  unfold encE at h
  split at h
  · omega
  · rename_i h1
    split at h
    · omega
    · rename_i h2
      split at h
      · omega
      · exact ⟨by simpa using h1, by simpa using h2, by omega⟩
theorem EncOk.zero {t : Int} {B : BV} (h : EncOk t B) : encE t B = 0 := by
  have := h.len
  simp [encE, h.known, h.may]
  omega
theorem encode_good (h : HV) (ok : h.All) (B : BV) (okb : B.Ok) (lt : Light B) (a1 a3 a8 : Option Addr) (q1 q3 q8 : Nat) (w : World) (hA : BArg w B (.slice a1 B.links.length q1) (.slice a3 B.routers.length q3) (.slice a8 B.data.length q8)) (he : EncOk h.typ B) :
    Calls Try.prog 7 #[h.v, B.v (.slice a1 B.links.length q1) (.slice a3 B.routers.length q3) (.slice a8 B.data.length q8)] w fun e w' => ∃ u, e = .returned (.tuple #[(sealH h (layB h.typ B)).sv u, .int .i64 0]) ∧ Buf w w' u (layB h.typ B) :=
  encode_ok h ok B a1 a3 a8 B.links.length q1 B.routers.length q3 B.data.length q8 (layB h.typ B) w (layB_byte okb) he.len (fun w' t => (writeT he.known B okb lt a1 a3 a8 q1 q3 q8 w' (hA.keep t)).mono (by
    rintro e w'' (⟨-, -, u, rfl, b⟩ | ⟨h1, -, -⟩ | ⟨-, h2, -, -⟩)
    · exact ⟨u, rfl, b⟩
    · rw [he.may] at h1; cases h1
    · have := he.len; omega))
theorem encode_bad (h : HV) (ok : h.All) (B : BV) (okb : B.Ok) (lt : Light B) (a1 a3 a8 : Option Addr) (q1 q3 q8 : Nat) (w : World) (hA : BArg w B (.slice a1 B.links.length q1) (.slice a3 B.routers.length q3) (.slice a8 B.data.length q8)) (he : encE h.typ B ≠ 0) :
    Calls Try.prog 7 #[h.v, B.v (.slice a1 B.links.length q1) (.slice a3 B.routers.length q3) (.slice a8 B.data.length q8)] w fun e w' => e = .returned (.tuple #[.agg #[.int .u16 0, .int .u8 0, .int .u8 0, .int .u32 0, .int .u32 0, .int .i32 0, .int .u16 0, .int .u16 0, .slice none 0 0], .int .i64 (encE h.typ B)]) ∧ Touch (fun _ => False) w w' := by
  refine encode_no h B a1 a3 a8 B.links.length q1 B.routers.length q3 B.data.length q8 (encE h.typ B) w (fun w' t => ?_)
  cases hk : knownB h.typ with
  | false =>
    have e : encE h.typ B = 21 := by simp [encE, hk]
    rw [e]
    exact write_none B h.typ a1 a3 a8 B.links.length q1 B.routers.length q3 B.data.length q8 w' (fun w => typeNone ok.t.1 ok.t.2 hk w)
  | true =>
    refine (writeT hk B okb lt a1 a3 a8 q1 q3 q8 w' (hA.keep t)).mono ?_
    rintro e w'' (⟨h1, h2, -⟩ | ⟨h1, rfl, t'⟩ | ⟨h1, h2, rfl, t'⟩)
    · exact absurd (EncOk.zero ⟨hk, h1, h2⟩) he
    · have e : encE h.typ B = 28 := by simp [encE, hk, h1]
      rw [e]
      exact ⟨rfl, t'⟩
    · have e : encE h.typ B = 11 := by simp [encE, hk, h1, h2]
      rw [e]
      exact ⟨rfl, t'⟩
end Go.Proofs.Ytfdpmlogieaiaaa
