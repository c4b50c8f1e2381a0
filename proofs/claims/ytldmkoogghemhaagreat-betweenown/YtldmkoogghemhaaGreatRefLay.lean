import Derived.Test.YtldmkoogghemhaaGreatRefSta2
import Derived.Test.YtldmkoogghemhaaGreatReader
namespace Go.Proofs.YtldmkoogghemhaaGreat
set_option maxHeartbeats 8000000
open Go.RowKit
set_option linter.unusedVariables false
set_option maxRecDepth 100000
theorem Qht (t:Int) (ht:t=3) (b:BV) (ok:b.Ok) (vl vr vd:Value) (w:World) (ha:BArg w b vl vr vd) (hb1:b.links.length≤8192) (hb2:b.routers.length≤32768) (hb3:b.data.length≤131072) :
  Calls Tryz.prog 66 #[.int .u8 t,b.v vl vr vd] w fun e w'=>∃v,e=.returned v∧Buf w w' v (numBytes 4 b.mask++numBytes 4 b.metric):=by
 obtain⟨al,cl,rfl,-⟩:=ValsAt.form ha.l
 obtain⟨ar,cr,rfl,-⟩:=ValsAt.form ha.r
 obtain⟨ad,cd,rfl,-⟩:=ArgAt.form ha.d
 have OK:Hid b.Ok:=ok
 have HA:Hid (BArg w b (.slice al b.links.length cl) (.slice ar b.routers.length cr) (.slice ad b.data.length cd)):=ha
 clear ok ha
 show Calls Tryz.prog 66 #[.int .u8 t,.agg #[.int .u8 b.flags,.slice al b.links.length cl,.int .u32 b.mask,.slice ar b.routers.length cr,.int .u32 b.metric,.bool b.type2,.int .u32 b.fwd,.int .u32 b.tag,.slice ad b.data.length cd]] w _
 subst ht
 go_enter Tryz.func66,Tryz.ntmps66
 go_wp2_with fail
 have K0:Hid (Bd (w.alloc (.cells #[.int .u8 b.flags,.slice al b.links.length cl,.int .u32 b.mask,.slice ar b.routers.length cr,.int .u32 b.metric,.bool b.type2,.int .u32 b.fwd,.int .u32 b.tag,.slice ad b.data.length cd] 92)) w.heap.size b (.slice al b.links.length cl) (.slice ar b.routers.length cr) (.slice ad b.data.length cd)):=Bd.new w b _ _ _ _
 have T0:Hid (Touch (fun _=>False) w (w.alloc (.cells #[.int .u8 b.flags,.slice al b.links.length cl,.int .u32 b.mask,.slice ar b.routers.length cr,.int .u32 b.metric,.bool b.type2,.int .u32 b.fwd,.int .u32 b.tag,.slice ad b.data.length cd] 92))):=(Touch.refl _ w).alloc _
 have A0:Hid (BArg (w.alloc (.cells #[.int .u8 b.flags,.slice al b.links.length cl,.int .u32 b.mask,.slice ar b.routers.length cr,.int .u32 b.metric,.bool b.type2,.int .u32 b.fwd,.int .u32 b.tag,.slice ad b.data.length cd] 92)) b (.slice al b.links.length cl) (.slice ar b.routers.length cr) (.slice ad b.data.length cd)):=HA.out.keep T0.out
 clear HA
 generalize w.alloc (.cells #[.int .u8 b.flags,.slice al b.links.length cl,.int .u32 b.mask,.slice ar b.routers.length cr,.int .u32 b.metric,.bool b.type2,.int .u32 b.fwd,.int .u32 b.tag,.slice ad b.data.length cd] 92)=wa at K0 T0 A0 ⊢
 generalize w.heap.size=g at K0 ⊢
 have B0:Hid (Buf wa wa (.slice none 0 0) []):=Buf.nil (Touch.refl _ _)
 refine Calls.mono (Qae b.mask _ OK.out.m.1 OK.out.m.2) ?_
 rintro e y0 ⟨u0v,rfl,d0⟩
 have D0:Hid (ArgAt y0 u0v (numBytes 4 b.mask)):=d0.arg
 have E0:Hid (Buf wa y0 _ ([])):=B0.out.keep d0.t
 obtain⟨c0,c1,c2,c3,c4,c5,c6,c7,c8⟩:=K0.out.keep E0.out.t
 clear d0 B0
 go_wp2_with (at_builtin;refine Qaj rfl (.tmp 86) (.tmp 89) rfl wa _ _ rfl E0.out _ _ rfl D0.out (by simp [numBytes]) ?_)
 intro v1 w1 b1
 clear D0 E0 c0 c1 c2 c3 c4 c5 c6 c7 c8
 have B1:Hid (Buf wa w1 v1 (numBytes 4 b.mask)):=b1
 clear b1
 obtain⟨c0,c1,c2,c3,c4,c5,c6,c7,c8⟩:=K0.out.keep B1.out.t
 go_wp2_with fail
 refine Calls.mono (Qae b.metric _ OK.out.e.1 OK.out.e.2) ?_
 rintro e y1 ⟨u1v,rfl,d1⟩
 clear c0 c1 c2 c3 c4 c5 c6 c7 c8
 have D1:Hid (ArgAt y1 u1v (numBytes 4 b.metric)):=d1.arg
 have E1:Hid (Buf wa y1 _ (numBytes 4 b.mask)):=B1.out.keep d1.t
 obtain⟨c0,c1,c2,c3,c4,c5,c6,c7,c8⟩:=K0.out.keep E1.out.t
 clear d1 B1
 go_wp2_with (at_builtin;refine Qaj rfl (.tmp 91) (.tmp 94) rfl wa _ _ rfl E1.out _ _ rfl D1.out (by simp [numBytes]) ?_)
 intro v2 w2 b2
 clear D1 E1 c0 c1 c2 c3 c4 c5 c6 c7 c8
 have B2:Hid (Buf wa w2 v2 (numBytes 4 b.mask++numBytes 4 b.metric)):=b2
 clear b2
 obtain⟨c0,c1,c2,c3,c4,c5,c6,c7,c8⟩:=K0.out.keep B2.out.t
 go_wp2_with fail
 go_ret
 exact⟨_,rfl,B2.out.back T0.out⟩
theorem Qii (t:Int) (ht:t=4) (b:BV) (ok:b.Ok) (vl vr vd:Value) (w:World) (ha:BArg w b vl vr vd) (hb1:b.links.length≤8192) (hb2:b.routers.length≤32768) (hb3:b.data.length≤131072) :
  Calls Tryz.prog 66 #[.int .u8 t,b.v vl vr vd] w fun e w'=>∃v,e=.returned v∧Buf w w' v (numBytes 4 b.mask++numBytes 4 b.metric):=by
 obtain⟨al,cl,rfl,-⟩:=ValsAt.form ha.l
 obtain⟨ar,cr,rfl,-⟩:=ValsAt.form ha.r
 obtain⟨ad,cd,rfl,-⟩:=ArgAt.form ha.d
 have OK:Hid b.Ok:=ok
 have HA:Hid (BArg w b (.slice al b.links.length cl) (.slice ar b.routers.length cr) (.slice ad b.data.length cd)):=ha
 clear ok ha
 show Calls Tryz.prog 66 #[.int .u8 t,.agg #[.int .u8 b.flags,.slice al b.links.length cl,.int .u32 b.mask,.slice ar b.routers.length cr,.int .u32 b.metric,.bool b.type2,.int .u32 b.fwd,.int .u32 b.tag,.slice ad b.data.length cd]] w _
 subst ht
 go_enter Tryz.func66,Tryz.ntmps66
 go_wp2_with fail
 have K0:Hid (Bd (w.alloc (.cells #[.int .u8 b.flags,.slice al b.links.length cl,.int .u32 b.mask,.slice ar b.routers.length cr,.int .u32 b.metric,.bool b.type2,.int .u32 b.fwd,.int .u32 b.tag,.slice ad b.data.length cd] 92)) w.heap.size b (.slice al b.links.length cl) (.slice ar b.routers.length cr) (.slice ad b.data.length cd)):=Bd.new w b _ _ _ _
 have T0:Hid (Touch (fun _=>False) w (w.alloc (.cells #[.int .u8 b.flags,.slice al b.links.length cl,.int .u32 b.mask,.slice ar b.routers.length cr,.int .u32 b.metric,.bool b.type2,.int .u32 b.fwd,.int .u32 b.tag,.slice ad b.data.length cd] 92))):=(Touch.refl _ w).alloc _
 have A0:Hid (BArg (w.alloc (.cells #[.int .u8 b.flags,.slice al b.links.length cl,.int .u32 b.mask,.slice ar b.routers.length cr,.int .u32 b.metric,.bool b.type2,.int .u32 b.fwd,.int .u32 b.tag,.slice ad b.data.length cd] 92)) b (.slice al b.links.length cl) (.slice ar b.routers.length cr) (.slice ad b.data.length cd)):=HA.out.keep T0.out
 clear HA
 generalize w.alloc (.cells #[.int .u8 b.flags,.slice al b.links.length cl,.int .u32 b.mask,.slice ar b.routers.length cr,.int .u32 b.metric,.bool b.type2,.int .u32 b.fwd,.int .u32 b.tag,.slice ad b.data.length cd] 92)=wa at K0 T0 A0 ⊢
 generalize w.heap.size=g at K0 ⊢
 have B0:Hid (Buf wa wa (.slice none 0 0) []):=Buf.nil (Touch.refl _ _)
 refine Calls.mono (Qae b.mask _ OK.out.m.1 OK.out.m.2) ?_
 rintro e y0 ⟨u0v,rfl,d0⟩
 have D0:Hid (ArgAt y0 u0v (numBytes 4 b.mask)):=d0.arg
 have E0:Hid (Buf wa y0 _ ([])):=B0.out.keep d0.t
 obtain⟨c0,c1,c2,c3,c4,c5,c6,c7,c8⟩:=K0.out.keep E0.out.t
 clear d0 B0
 go_wp2_with (at_builtin;refine Qaj rfl (.tmp 86) (.tmp 89) rfl wa _ _ rfl E0.out _ _ rfl D0.out (by simp [numBytes]) ?_)
 intro v1 w1 b1
 clear D0 E0 c0 c1 c2 c3 c4 c5 c6 c7 c8
 have B1:Hid (Buf wa w1 v1 (numBytes 4 b.mask)):=b1
 clear b1
 obtain⟨c0,c1,c2,c3,c4,c5,c6,c7,c8⟩:=K0.out.keep B1.out.t
 go_wp2_with fail
 refine Calls.mono (Qae b.metric _ OK.out.e.1 OK.out.e.2) ?_
 rintro e y1 ⟨u1v,rfl,d1⟩
 clear c0 c1 c2 c3 c4 c5 c6 c7 c8
 have D1:Hid (ArgAt y1 u1v (numBytes 4 b.metric)):=d1.arg
 have E1:Hid (Buf wa y1 _ (numBytes 4 b.mask)):=B1.out.keep d1.t
 obtain⟨c0,c1,c2,c3,c4,c5,c6,c7,c8⟩:=K0.out.keep E1.out.t
 clear d1 B1
 go_wp2_with (at_builtin;refine Qaj rfl (.tmp 91) (.tmp 94) rfl wa _ _ rfl E1.out _ _ rfl D1.out (by simp [numBytes]) ?_)
 intro v2 w2 b2
 clear D1 E1 c0 c1 c2 c3 c4 c5 c6 c7 c8
 have B2:Hid (Buf wa w2 v2 (numBytes 4 b.mask++numBytes 4 b.metric)):=b2
 clear b2
 obtain⟨c0,c1,c2,c3,c4,c5,c6,c7,c8⟩:=K0.out.keep B2.out.t
 go_wp2_with fail
 go_ret
 exact⟨_,rfl,B2.out.back T0.out⟩
theorem Qj5 (t:Int) (ht:t=5) (b:BV) (ok:b.Ok) (vl vr vd:Value) (w:World) (ha:BArg w b vl vr vd) (hb1:b.links.length≤8192) (hb2:b.routers.length≤32768) (hb3:b.data.length≤131072) :
  Calls Tryz.prog 66 #[.int .u8 t,b.v vl vr vd] w fun e w'=>∃v,e=.returned v∧Buf w w' v (numBytes 4 b.mask++numBytes 4 (metricN b)++numBytes 4 b.fwd++numBytes 4 b.tag):=by
 obtain⟨al,cl,rfl,-⟩:=ValsAt.form ha.l
 obtain⟨ar,cr,rfl,-⟩:=ValsAt.form ha.r
 obtain⟨ad,cd,rfl,-⟩:=ArgAt.form ha.d
 have OK:Hid b.Ok:=ok
 have HA:Hid (BArg w b (.slice al b.links.length cl) (.slice ar b.routers.length cr) (.slice ad b.data.length cd)):=ha
 clear ok ha
 show Calls Tryz.prog 66 #[.int .u8 t,.agg #[.int .u8 b.flags,.slice al b.links.length cl,.int .u32 b.mask,.slice ar b.routers.length cr,.int .u32 b.metric,.bool b.type2,.int .u32 b.fwd,.int .u32 b.tag,.slice ad b.data.length cd]] w _
 subst ht
 go_enter Tryz.func66,Tryz.ntmps66
 go_wp2_with fail
 have K0:Hid (Bd (w.alloc (.cells #[.int .u8 b.flags,.slice al b.links.length cl,.int .u32 b.mask,.slice ar b.routers.length cr,.int .u32 b.metric,.bool b.type2,.int .u32 b.fwd,.int .u32 b.tag,.slice ad b.data.length cd] 92)) w.heap.size b (.slice al b.links.length cl) (.slice ar b.routers.length cr) (.slice ad b.data.length cd)):=Bd.new w b _ _ _ _
 have T0:Hid (Touch (fun _=>False) w (w.alloc (.cells #[.int .u8 b.flags,.slice al b.links.length cl,.int .u32 b.mask,.slice ar b.routers.length cr,.int .u32 b.metric,.bool b.type2,.int .u32 b.fwd,.int .u32 b.tag,.slice ad b.data.length cd] 92))):=(Touch.refl _ w).alloc _
 have A0:Hid (BArg (w.alloc (.cells #[.int .u8 b.flags,.slice al b.links.length cl,.int .u32 b.mask,.slice ar b.routers.length cr,.int .u32 b.metric,.bool b.type2,.int .u32 b.fwd,.int .u32 b.tag,.slice ad b.data.length cd] 92)) b (.slice al b.links.length cl) (.slice ar b.routers.length cr) (.slice ad b.data.length cd)):=HA.out.keep T0.out
 clear HA
 generalize w.alloc (.cells #[.int .u8 b.flags,.slice al b.links.length cl,.int .u32 b.mask,.slice ar b.routers.length cr,.int .u32 b.metric,.bool b.type2,.int .u32 b.fwd,.int .u32 b.tag,.slice ad b.data.length cd] 92)=wa at K0 T0 A0 ⊢
 generalize w.heap.size=g at K0 ⊢
 have B0:Hid (Buf wa wa (.slice none 0 0) []):=Buf.nil (Touch.refl _ _)
 refine Calls.mono (Qae b.mask _ OK.out.m.1 OK.out.m.2) ?_
 rintro e y0 ⟨u0v,rfl,d0⟩
 have D0:Hid (ArgAt y0 u0v (numBytes 4 b.mask)):=d0.arg
 have E0:Hid (Buf wa y0 _ ([])):=B0.out.keep d0.t
 obtain⟨c0,c1,c2,c3,c4,c5,c6,c7,c8⟩:=K0.out.keep E0.out.t
 clear d0 B0
 go_wp2_with (at_builtin;refine Qaj rfl (.tmp 99) (.tmp 102) rfl wa _ _ rfl E0.out _ _ rfl D0.out (by simp [numBytes]) ?_)
 intro v1 w1 b1
 clear D0 E0 c0 c1 c2 c3 c4 c5 c6 c7 c8
 have B1:Hid (Buf wa w1 v1 (numBytes 4 b.mask)):=b1
 clear b1
 obtain⟨me0,me1⟩:=OK.out.e
 cases h2:b.type2 with
 | true =>
  have HM:Hid (metricN b=(b.metric+2147483648)%4294967296):=by show _=_;simp [metricN,h2]
  obtain⟨c0,c1,c2,c3,c4,c5,c6,c7,c8⟩:=K0.out.keep B1.out.t
  rw [h2] at c5
  clear h2
  go_wp2_with fail
  clear c0 c1 c2 c3 c4 c5 c6 c7 c8
  refine Calls.mono (Qae ((b.metric+2147483648)%4294967296) _ (by omega) (by omega)) ?_
  rintro e y1 ⟨u1v,rfl,d1⟩
  have D1:Hid (ArgAt y1 u1v (numBytes 4 ((b.metric+2147483648)%4294967296))):=d1.arg
  have E1:Hid (Buf wa y1 _ (numBytes 4 b.mask)):=B1.out.keep d1.t
  obtain⟨c0,c1,c2,c3,c4,c5,c6,c7,c8⟩:=K0.out.keep E1.out.t
  clear d1 B1
  go_wp2_with (at_builtin;refine Qaj rfl (.tmp 110) (.tmp 112) rfl wa _ _ rfl E1.out _ _ rfl D1.out (by simp [numBytes]) ?_)
  intro v2 w2 b2
  clear D1 E1 c0 c1 c2 c3 c4 c5 c6 c7 c8
  have B2:Hid (Buf wa w2 v2 (numBytes 4 b.mask++numBytes 4 ((b.metric+2147483648)%4294967296))):=b2
  clear b2
  obtain⟨c0,c1,c2,c3,c4,c5,c6,c7,c8⟩:=K0.out.keep B2.out.t
  go_wp2_with fail
  refine Calls.mono (Qae b.fwd _ OK.out.w.1 OK.out.w.2) ?_
  rintro e y2 ⟨u2v,rfl,d2⟩
  clear c0 c1 c2 c3 c4 c5 c6 c7 c8
  have D2:Hid (ArgAt y2 u2v (numBytes 4 b.fwd)):=d2.arg
  have E2:Hid (Buf wa y2 _ (numBytes 4 b.mask++numBytes 4 ((b.metric+2147483648)%4294967296))):=B2.out.keep d2.t
  obtain⟨c0,c1,c2,c3,c4,c5,c6,c7,c8⟩:=K0.out.keep E2.out.t
  clear d2 B2
  go_wp2_with (at_builtin;refine Qaj rfl (.tmp 114) (.tmp 117) rfl wa _ _ rfl E2.out _ _ rfl D2.out (by simp [numBytes]) ?_)
  intro v3 w3 b3
  clear D2 E2 c0 c1 c2 c3 c4 c5 c6 c7 c8
  have B3:Hid (Buf wa w3 v3 (numBytes 4 b.mask++numBytes 4 ((b.metric+2147483648)%4294967296)++numBytes 4 b.fwd)):=b3
  clear b3
  obtain⟨c0,c1,c2,c3,c4,c5,c6,c7,c8⟩:=K0.out.keep B3.out.t
  go_wp2_with fail
  refine Calls.mono (Qae b.tag _ OK.out.t.1 OK.out.t.2) ?_
  rintro e y3 ⟨u3v,rfl,d3⟩
  clear c0 c1 c2 c3 c4 c5 c6 c7 c8
  have D3:Hid (ArgAt y3 u3v (numBytes 4 b.tag)):=d3.arg
  have E3:Hid (Buf wa y3 _ (numBytes 4 b.mask++numBytes 4 ((b.metric+2147483648)%4294967296)++numBytes 4 b.fwd)):=B3.out.keep d3.t
  obtain⟨c0,c1,c2,c3,c4,c5,c6,c7,c8⟩:=K0.out.keep E3.out.t
  clear d3 B3
  go_wp2_with (at_builtin;refine Qaj rfl (.tmp 119) (.tmp 122) rfl wa _ _ rfl E3.out _ _ rfl D3.out (by simp [numBytes]) ?_)
  intro v4 w4 b4
  clear D3 E3 c0 c1 c2 c3 c4 c5 c6 c7 c8
  have B4:Hid (Buf wa w4 v4 (numBytes 4 b.mask++numBytes 4 ((b.metric+2147483648)%4294967296)++numBytes 4 b.fwd++numBytes 4 b.tag)):=b4
  clear b4
  obtain⟨c0,c1,c2,c3,c4,c5,c6,c7,c8⟩:=K0.out.keep B4.out.t
  go_wp2_with fail
  go_ret
  exact⟨_,rfl,by rw [HM.out];exact B4.out.back T0.out⟩
 | false =>
  have HM:Hid (metricN b=b.metric):=by show _=_;simp [metricN,h2]
  obtain⟨c0,c1,c2,c3,c4,c5,c6,c7,c8⟩:=K0.out.keep B1.out.t
  rw [h2] at c5
  clear h2
  go_wp2_with fail
  clear c0 c1 c2 c3 c4 c5 c6 c7 c8
  refine Calls.mono (Qae (b.metric) _ (by omega) (by omega)) ?_
  rintro e y1 ⟨u1v,rfl,d1⟩
  have D1:Hid (ArgAt y1 u1v (numBytes 4 (b.metric))):=d1.arg
  have E1:Hid (Buf wa y1 _ (numBytes 4 b.mask)):=B1.out.keep d1.t
  obtain⟨c0,c1,c2,c3,c4,c5,c6,c7,c8⟩:=K0.out.keep E1.out.t
  clear d1 B1
  go_wp2_with (at_builtin;refine Qaj rfl (.tmp 110) (.tmp 112) rfl wa _ _ rfl E1.out _ _ rfl D1.out (by simp [numBytes]) ?_)
  intro v2 w2 b2
  clear D1 E1 c0 c1 c2 c3 c4 c5 c6 c7 c8
  have B2:Hid (Buf wa w2 v2 (numBytes 4 b.mask++numBytes 4 (b.metric))):=b2
  clear b2
  obtain⟨c0,c1,c2,c3,c4,c5,c6,c7,c8⟩:=K0.out.keep B2.out.t
  go_wp2_with fail
  refine Calls.mono (Qae b.fwd _ OK.out.w.1 OK.out.w.2) ?_
  rintro e y2 ⟨u2v,rfl,d2⟩
  clear c0 c1 c2 c3 c4 c5 c6 c7 c8
  have D2:Hid (ArgAt y2 u2v (numBytes 4 b.fwd)):=d2.arg
  have E2:Hid (Buf wa y2 _ (numBytes 4 b.mask++numBytes 4 (b.metric))):=B2.out.keep d2.t
  obtain⟨c0,c1,c2,c3,c4,c5,c6,c7,c8⟩:=K0.out.keep E2.out.t
  clear d2 B2
  go_wp2_with (at_builtin;refine Qaj rfl (.tmp 114) (.tmp 117) rfl wa _ _ rfl E2.out _ _ rfl D2.out (by simp [numBytes]) ?_)
  intro v3 w3 b3
  clear D2 E2 c0 c1 c2 c3 c4 c5 c6 c7 c8
  have B3:Hid (Buf wa w3 v3 (numBytes 4 b.mask++numBytes 4 (b.metric)++numBytes 4 b.fwd)):=b3
  clear b3
  obtain⟨c0,c1,c2,c3,c4,c5,c6,c7,c8⟩:=K0.out.keep B3.out.t
  go_wp2_with fail
  refine Calls.mono (Qae b.tag _ OK.out.t.1 OK.out.t.2) ?_
  rintro e y3 ⟨u3v,rfl,d3⟩
  clear c0 c1 c2 c3 c4 c5 c6 c7 c8
  have D3:Hid (ArgAt y3 u3v (numBytes 4 b.tag)):=d3.arg
  have E3:Hid (Buf wa y3 _ (numBytes 4 b.mask++numBytes 4 (b.metric)++numBytes 4 b.fwd)):=B3.out.keep d3.t
  obtain⟨c0,c1,c2,c3,c4,c5,c6,c7,c8⟩:=K0.out.keep E3.out.t
  clear d3 B3
  go_wp2_with (at_builtin;refine Qaj rfl (.tmp 119) (.tmp 122) rfl wa _ _ rfl E3.out _ _ rfl D3.out (by simp [numBytes]) ?_)
  intro v4 w4 b4
  clear D3 E3 c0 c1 c2 c3 c4 c5 c6 c7 c8
  have B4:Hid (Buf wa w4 v4 (numBytes 4 b.mask++numBytes 4 (b.metric)++numBytes 4 b.fwd++numBytes 4 b.tag)):=b4
  clear b4
  obtain⟨c0,c1,c2,c3,c4,c5,c6,c7,c8⟩:=K0.out.keep B4.out.t
  go_wp2_with fail
  go_ret
  exact⟨_,rfl,by rw [HM.out];exact B4.out.back T0.out⟩
theorem Qh5 (t:Int) (ht:t=7) (b:BV) (ok:b.Ok) (vl vr vd:Value) (w:World) (ha:BArg w b vl vr vd) (hb1:b.links.length≤8192) (hb2:b.routers.length≤32768) (hb3:b.data.length≤131072) :
  Calls Tryz.prog 66 #[.int .u8 t,b.v vl vr vd] w fun e w'=>∃v,e=.returned v∧Buf w w' v (numBytes 4 b.mask++numBytes 4 (metricN b)++numBytes 4 b.fwd++numBytes 4 b.tag):=by
 obtain⟨al,cl,rfl,-⟩:=ValsAt.form ha.l
 obtain⟨ar,cr,rfl,-⟩:=ValsAt.form ha.r
 obtain⟨ad,cd,rfl,-⟩:=ArgAt.form ha.d
 have OK:Hid b.Ok:=ok
 have HA:Hid (BArg w b (.slice al b.links.length cl) (.slice ar b.routers.length cr) (.slice ad b.data.length cd)):=ha
 clear ok ha
 show Calls Tryz.prog 66 #[.int .u8 t,.agg #[.int .u8 b.flags,.slice al b.links.length cl,.int .u32 b.mask,.slice ar b.routers.length cr,.int .u32 b.metric,.bool b.type2,.int .u32 b.fwd,.int .u32 b.tag,.slice ad b.data.length cd]] w _
 subst ht
 go_enter Tryz.func66,Tryz.ntmps66
 go_wp2_with fail
 have K0:Hid (Bd (w.alloc (.cells #[.int .u8 b.flags,.slice al b.links.length cl,.int .u32 b.mask,.slice ar b.routers.length cr,.int .u32 b.metric,.bool b.type2,.int .u32 b.fwd,.int .u32 b.tag,.slice ad b.data.length cd] 92)) w.heap.size b (.slice al b.links.length cl) (.slice ar b.routers.length cr) (.slice ad b.data.length cd)):=Bd.new w b _ _ _ _
 have T0:Hid (Touch (fun _=>False) w (w.alloc (.cells #[.int .u8 b.flags,.slice al b.links.length cl,.int .u32 b.mask,.slice ar b.routers.length cr,.int .u32 b.metric,.bool b.type2,.int .u32 b.fwd,.int .u32 b.tag,.slice ad b.data.length cd] 92))):=(Touch.refl _ w).alloc _
 have A0:Hid (BArg (w.alloc (.cells #[.int .u8 b.flags,.slice al b.links.length cl,.int .u32 b.mask,.slice ar b.routers.length cr,.int .u32 b.metric,.bool b.type2,.int .u32 b.fwd,.int .u32 b.tag,.slice ad b.data.length cd] 92)) b (.slice al b.links.length cl) (.slice ar b.routers.length cr) (.slice ad b.data.length cd)):=HA.out.keep T0.out
 clear HA
 generalize w.alloc (.cells #[.int .u8 b.flags,.slice al b.links.length cl,.int .u32 b.mask,.slice ar b.routers.length cr,.int .u32 b.metric,.bool b.type2,.int .u32 b.fwd,.int .u32 b.tag,.slice ad b.data.length cd] 92)=wa at K0 T0 A0 ⊢
 generalize w.heap.size=g at K0 ⊢
 have B0:Hid (Buf wa wa (.slice none 0 0) []):=Buf.nil (Touch.refl _ _)
 refine Calls.mono (Qae b.mask _ OK.out.m.1 OK.out.m.2) ?_
 rintro e y0 ⟨u0v,rfl,d0⟩
 have D0:Hid (ArgAt y0 u0v (numBytes 4 b.mask)):=d0.arg
 have E0:Hid (Buf wa y0 _ ([])):=B0.out.keep d0.t
 obtain⟨c0,c1,c2,c3,c4,c5,c6,c7,c8⟩:=K0.out.keep E0.out.t
 clear d0 B0
 go_wp2_with (at_builtin;refine Qaj rfl (.tmp 99) (.tmp 102) rfl wa _ _ rfl E0.out _ _ rfl D0.out (by simp [numBytes]) ?_)
 intro v1 w1 b1
 clear D0 E0 c0 c1 c2 c3 c4 c5 c6 c7 c8
 have B1:Hid (Buf wa w1 v1 (numBytes 4 b.mask)):=b1
 clear b1
 obtain⟨me0,me1⟩:=OK.out.e
 cases h2:b.type2 with
 | true =>
  have HM:Hid (metricN b=(b.metric+2147483648)%4294967296):=by show _=_;simp [metricN,h2]
  obtain⟨c0,c1,c2,c3,c4,c5,c6,c7,c8⟩:=K0.out.keep B1.out.t
  rw [h2] at c5
  clear h2
  go_wp2_with fail
  clear c0 c1 c2 c3 c4 c5 c6 c7 c8
  refine Calls.mono (Qae ((b.metric+2147483648)%4294967296) _ (by omega) (by omega)) ?_
  rintro e y1 ⟨u1v,rfl,d1⟩
  have D1:Hid (ArgAt y1 u1v (numBytes 4 ((b.metric+2147483648)%4294967296))):=d1.arg
  have E1:Hid (Buf wa y1 _ (numBytes 4 b.mask)):=B1.out.keep d1.t
  obtain⟨c0,c1,c2,c3,c4,c5,c6,c7,c8⟩:=K0.out.keep E1.out.t
  clear d1 B1
  go_wp2_with (at_builtin;refine Qaj rfl (.tmp 110) (.tmp 112) rfl wa _ _ rfl E1.out _ _ rfl D1.out (by simp [numBytes]) ?_)
  intro v2 w2 b2
  clear D1 E1 c0 c1 c2 c3 c4 c5 c6 c7 c8
  have B2:Hid (Buf wa w2 v2 (numBytes 4 b.mask++numBytes 4 ((b.metric+2147483648)%4294967296))):=b2
  clear b2
  obtain⟨c0,c1,c2,c3,c4,c5,c6,c7,c8⟩:=K0.out.keep B2.out.t
  go_wp2_with fail
  refine Calls.mono (Qae b.fwd _ OK.out.w.1 OK.out.w.2) ?_
  rintro e y2 ⟨u2v,rfl,d2⟩
  clear c0 c1 c2 c3 c4 c5 c6 c7 c8
  have D2:Hid (ArgAt y2 u2v (numBytes 4 b.fwd)):=d2.arg
  have E2:Hid (Buf wa y2 _ (numBytes 4 b.mask++numBytes 4 ((b.metric+2147483648)%4294967296))):=B2.out.keep d2.t
  obtain⟨c0,c1,c2,c3,c4,c5,c6,c7,c8⟩:=K0.out.keep E2.out.t
  clear d2 B2
  go_wp2_with (at_builtin;refine Qaj rfl (.tmp 114) (.tmp 117) rfl wa _ _ rfl E2.out _ _ rfl D2.out (by simp [numBytes]) ?_)
  intro v3 w3 b3
  clear D2 E2 c0 c1 c2 c3 c4 c5 c6 c7 c8
  have B3:Hid (Buf wa w3 v3 (numBytes 4 b.mask++numBytes 4 ((b.metric+2147483648)%4294967296)++numBytes 4 b.fwd)):=b3
  clear b3
  obtain⟨c0,c1,c2,c3,c4,c5,c6,c7,c8⟩:=K0.out.keep B3.out.t
  go_wp2_with fail
  refine Calls.mono (Qae b.tag _ OK.out.t.1 OK.out.t.2) ?_
  rintro e y3 ⟨u3v,rfl,d3⟩
  clear c0 c1 c2 c3 c4 c5 c6 c7 c8
  have D3:Hid (ArgAt y3 u3v (numBytes 4 b.tag)):=d3.arg
  have E3:Hid (Buf wa y3 _ (numBytes 4 b.mask++numBytes 4 ((b.metric+2147483648)%4294967296)++numBytes 4 b.fwd)):=B3.out.keep d3.t
  obtain⟨c0,c1,c2,c3,c4,c5,c6,c7,c8⟩:=K0.out.keep E3.out.t
  clear d3 B3
  go_wp2_with (at_builtin;refine Qaj rfl (.tmp 119) (.tmp 122) rfl wa _ _ rfl E3.out _ _ rfl D3.out (by simp [numBytes]) ?_)
  intro v4 w4 b4
  clear D3 E3 c0 c1 c2 c3 c4 c5 c6 c7 c8
  have B4:Hid (Buf wa w4 v4 (numBytes 4 b.mask++numBytes 4 ((b.metric+2147483648)%4294967296)++numBytes 4 b.fwd++numBytes 4 b.tag)):=b4
  clear b4
  obtain⟨c0,c1,c2,c3,c4,c5,c6,c7,c8⟩:=K0.out.keep B4.out.t
  go_wp2_with fail
  go_ret
  exact⟨_,rfl,by rw [HM.out];exact B4.out.back T0.out⟩
 | false =>
  have HM:Hid (metricN b=b.metric):=by show _=_;simp [metricN,h2]
  obtain⟨c0,c1,c2,c3,c4,c5,c6,c7,c8⟩:=K0.out.keep B1.out.t
  rw [h2] at c5
  clear h2
  go_wp2_with fail
  clear c0 c1 c2 c3 c4 c5 c6 c7 c8
  refine Calls.mono (Qae (b.metric) _ (by omega) (by omega)) ?_
  rintro e y1 ⟨u1v,rfl,d1⟩
  have D1:Hid (ArgAt y1 u1v (numBytes 4 (b.metric))):=d1.arg
  have E1:Hid (Buf wa y1 _ (numBytes 4 b.mask)):=B1.out.keep d1.t
  obtain⟨c0,c1,c2,c3,c4,c5,c6,c7,c8⟩:=K0.out.keep E1.out.t
  clear d1 B1
  go_wp2_with (at_builtin;refine Qaj rfl (.tmp 110) (.tmp 112) rfl wa _ _ rfl E1.out _ _ rfl D1.out (by simp [numBytes]) ?_)
  intro v2 w2 b2
  clear D1 E1 c0 c1 c2 c3 c4 c5 c6 c7 c8
  have B2:Hid (Buf wa w2 v2 (numBytes 4 b.mask++numBytes 4 (b.metric))):=b2
  clear b2
  obtain⟨c0,c1,c2,c3,c4,c5,c6,c7,c8⟩:=K0.out.keep B2.out.t
  go_wp2_with fail
  refine Calls.mono (Qae b.fwd _ OK.out.w.1 OK.out.w.2) ?_
  rintro e y2 ⟨u2v,rfl,d2⟩
  clear c0 c1 c2 c3 c4 c5 c6 c7 c8
  have D2:Hid (ArgAt y2 u2v (numBytes 4 b.fwd)):=d2.arg
  have E2:Hid (Buf wa y2 _ (numBytes 4 b.mask++numBytes 4 (b.metric))):=B2.out.keep d2.t
  obtain⟨c0,c1,c2,c3,c4,c5,c6,c7,c8⟩:=K0.out.keep E2.out.t
  clear d2 B2
  go_wp2_with (at_builtin;refine Qaj rfl (.tmp 114) (.tmp 117) rfl wa _ _ rfl E2.out _ _ rfl D2.out (by simp [numBytes]) ?_)
  intro v3 w3 b3
  clear D2 E2 c0 c1 c2 c3 c4 c5 c6 c7 c8
  have B3:Hid (Buf wa w3 v3 (numBytes 4 b.mask++numBytes 4 (b.metric)++numBytes 4 b.fwd)):=b3
  clear b3
  obtain⟨c0,c1,c2,c3,c4,c5,c6,c7,c8⟩:=K0.out.keep B3.out.t
  go_wp2_with fail
  refine Calls.mono (Qae b.tag _ OK.out.t.1 OK.out.t.2) ?_
  rintro e y3 ⟨u3v,rfl,d3⟩
  clear c0 c1 c2 c3 c4 c5 c6 c7 c8
  have D3:Hid (ArgAt y3 u3v (numBytes 4 b.tag)):=d3.arg
  have E3:Hid (Buf wa y3 _ (numBytes 4 b.mask++numBytes 4 (b.metric)++numBytes 4 b.fwd)):=B3.out.keep d3.t
  obtain⟨c0,c1,c2,c3,c4,c5,c6,c7,c8⟩:=K0.out.keep E3.out.t
  clear d3 B3
  go_wp2_with (at_builtin;refine Qaj rfl (.tmp 119) (.tmp 122) rfl wa _ _ rfl E3.out _ _ rfl D3.out (by simp [numBytes]) ?_)
  intro v4 w4 b4
  clear D3 E3 c0 c1 c2 c3 c4 c5 c6 c7 c8
  have B4:Hid (Buf wa w4 v4 (numBytes 4 b.mask++numBytes 4 (b.metric)++numBytes 4 b.fwd++numBytes 4 b.tag)):=b4
  clear b4
  obtain⟨c0,c1,c2,c3,c4,c5,c6,c7,c8⟩:=K0.out.keep B4.out.t
  go_wp2_with fail
  go_ret
  exact⟨_,rfl,by rw [HM.out];exact B4.out.back T0.out⟩
theorem Qir (t:Int) (h1:¬t=1) (h2:¬t=2) (h3:¬t=3) (h4:¬t=4) (h5:¬t=5) (h7:¬t=7) (b:BV) (ok:b.Ok) (vl vr vd:Value) (w:World) (ha:BArg w b vl vr vd) (hb1:b.links.length≤8192) (hb2:b.routers.length≤32768) (hb3:b.data.length≤131072) :
  Calls Tryz.prog 66 #[.int .u8 t,b.v vl vr vd] w fun e w'=>∃v,e=.returned v∧Buf w w' v (b.data):=by
 obtain⟨al,cl,rfl,-⟩:=ValsAt.form ha.l
 obtain⟨ar,cr,rfl,-⟩:=ValsAt.form ha.r
 obtain⟨ad,cd,rfl,-⟩:=ArgAt.form ha.d
 have OK:Hid b.Ok:=ok
 have HA:Hid (BArg w b (.slice al b.links.length cl) (.slice ar b.routers.length cr) (.slice ad b.data.length cd)):=ha
 clear ok ha
 show Calls Tryz.prog 66 #[.int .u8 t,.agg #[.int .u8 b.flags,.slice al b.links.length cl,.int .u32 b.mask,.slice ar b.routers.length cr,.int .u32 b.metric,.bool b.type2,.int .u32 b.fwd,.int .u32 b.tag,.slice ad b.data.length cd]] w _
 go_enter Tryz.func66,Tryz.ntmps66
 have HB:Hid (Buf w (w.alloc (.cells #[.int .u8 b.flags,.slice al b.links.length cl,.int .u32 b.mask,.slice ar b.routers.length cr,.int .u32 b.metric,.bool b.type2,.int .u32 b.fwd,.int .u32 b.tag,.slice ad b.data.length cd] 92)) (.slice none 0 0) []):=Buf.nil ((Touch.refl _ _).alloc _)
 have HD:Hid (ArgAt (w.alloc (.cells #[.int .u8 b.flags,.slice al b.links.length cl,.int .u32 b.mask,.slice ar b.routers.length cr,.int .u32 b.metric,.bool b.type2,.int .u32 b.fwd,.int .u32 b.tag,.slice ad b.data.length cd] 92)) (.slice ad b.data.length cd) b.data):=HA.out.d.keepN ((Touch.refl _ _).alloc _)
 go_wp2_with (at_builtin;refine Qaj rfl (.tmp 11) (.tmp 13) rfl w _ _ rfl HB.out _ _ rfl HD.out (by simp;omega) ?_)
 intro v1 w1 b1
 have B1:Hid (Buf w w1 v1 b.data):=b1
 clear b1 HB HD
 go_wp2_with fail
 go_ret
 exact⟨_,rfl,B1.out⟩
end Go.Proofs.YtldmkoogghemhaaGreat
