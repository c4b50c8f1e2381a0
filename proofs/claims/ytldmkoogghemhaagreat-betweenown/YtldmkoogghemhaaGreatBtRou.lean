import Derived.Test.YtldmkoogghemhaaGreatBtBest
namespace Go.Proofs.YtldmkoogghemhaaGreat
set_option maxHeartbeats 8000000
open Go.RowKit
set_option linter.unusedVariables false
set_option maxRecDepth 100000
def netW (area:Int) (z:WP):WP:={ z with kind:=2,area:=area }
def bdW (area:Int) (z:WP):WP:={ z with flags:=2,kind:=2,area:=area }
def isNet (z:WP):Bool:=decide (z.router=0)
def isBo (me:Int) (z:WP):Bool:=decide (z.router≠0∧z.router≠me)
def netsP (area:Int) (K:List WP):List WP:=(K.filter isNet).map (netW area)
def bdsP (area me:Int) (K:List WP):List WP:=(K.filter (isBo me)).map (bdW area)
theorem Qi5 {area:Int} {K:List WP} {k:Nat} {z:WP} (hz:K[k]?=some z) (h:z.router=0):netsP area (K.take (k+1))=netsP area (K.take k)++[netW area z]:=by
 unfold netsP
 rw [List.take_add_one,hz,List.filter_append,List.map_append]
 simp [isNet,h]
theorem Qgw {area:Int} {K:List WP} {k:Nat} {z:WP} (hz:K[k]?=some z) (h:¬z.router=0):netsP area (K.take (k+1))=netsP area (K.take k):=by
 unfold netsP
 rw [List.take_add_one,hz,List.filter_append,List.map_append]
 simp [isNet,h]
theorem Qkv {area me:Int} {K:List WP} {k:Nat} {z:WP} (hz:K[k]?=some z) (h:¬z.router=0) (h2:¬z.router=me):bdsP area me (K.take (k+1))=bdsP area me (K.take k)++[bdW area z]:=by
 unfold bdsP
 rw [List.take_add_one,hz,List.filter_append,List.map_append]
 simp [isBo,h,h2]
theorem Qi7 {area me:Int} {K:List WP} {k:Nat} {z:WP} (hz:K[k]?=some z) (h:z.router=0∨z.router=me):bdsP area me (K.take (k+1))=bdsP area me (K.take k):=by
 unfold bdsP
 rw [List.take_add_one,hz,List.filter_append,List.map_append]
 rcases h with h|h <;> simp [isBo,h]
theorem Qfp {ops:Array Oper} {rest:List Oper} {o:Oper} {a:Act} {w:World} {Q:Exit→Act→World→Prop} (hgd:o.guard=none) (s x:Operand) (t:TypeId) (ho:o.op=.call { callee:=.builtin .append,args:=#[s,x],argTypes:=#[t,t] })
  (e k bytes:Nat) (z:Value) (ht:Tryz.prog.underlying t=some (.slice e)) (hi:(Tryz.prog.info? e).map (fun i=>(i.zero,i.size,i.bytes))=some (some z,k,bytes)) (hzs:z.cells.size=k) (hk:0<k) (hby:bytes≤64)
  (base:Nat) (v:Value) (n:Nat) (xs:List Value) (hs:a.eval s=v) (hb:w.ownsRow base e k v n xs) (hbase:base≤w.heap.size) (ad:Addr) (m c:Nat) (news:List Value) (hx:a.eval x=.slice (some ad) m c) (hnl:news.length=m*k) (hr:∀j u,news[j]?=some u→w.cell? (ad.add j)=some u) (h1:∀u∈news,u.oneCell'=true) (hl:n+m≤1099511627776)
  (h:∀v' w',w'.ownsRow base e k v' (n+m) (xs++news)→Touch (fun j=>v.ownBlock=some j) w w'→(v'.ownBlock=v.ownBlock∨∀j,v'.ownBlock=some j→w.heap.size≤j)→wpList Tryz.prog ops Q rest (a.put o.dst v') w'):wpList Tryz.prog ops Q (o::rest) a w:=by
 obtain⟨i0,hi,hz0,hz1,hz2⟩:=info_parts hi
 have hmul:(n+m)*bytes≤1099511627776*64:=Nat.mul_le_mul hl hby
 refine wpList_append_own_at w hgd s x t ho base e i0 z k bytes ht hi hz0 hz1 hz2 hzs hk v n xs hs hb ad m c news hx hnl hr h1 (by unfold maxLen;omega) (by omega) hbase ?_
 intro v' w' hown hg _ hd
 exact h v' w' hown ((Touch.refl _ _).grown hg (fun k hk=>Or.inl hk)) (hd.imp id (fun e j hj=>by rw [e] at hj;cases hj;exact Nat.le_refl _))
def Dj (a b:Value):Prop:=∀k,a.ownBlock=some k→b.ownBlock≠some k
theorem Dj.symm {a b:Value} (h:Dj a b):Dj b a:=fun k h1 h2=>h k h2 h1
structure Rw2 (w wr:World) (s8 s9:Value) (N1 N2:List WY):Prop where
 a:WsB w wr s8 N1
 b:WsB w wr s9 N2
 d:Dj s8 s9
theorem Rw2.keep {w wr w':World} {s8 s9:Value} {N1 N2:List WY} (h:Rw2 w wr s8 s9 N1 N2) (t:Touch (fun _=>False) wr w'):Rw2 w w' s8 s9 N1 N2:=⟨h.a.keep t,h.b.keep t,h.d⟩
theorem Rw2.fresh {w wr w':World} {s8 s9:Value} {N1 N2:List WY} (h:Rw2 w wr s8 s9 N1 N2) {g:Nat} (hg:wr.heap.size≤g) (t:Touch (fun k=>k=g) wr w'):Rw2 w w' s8 s9 N1 N2:=by
 have hb:∀{v:Value} {n:Nat} {xs:List Value},wr.ownsRow w.heap.size 47 10 v n xs→∀j,v.ownBlock=some j→¬j=g:=fun ho j hj e=>by have:=(ho.lt j hj).2;omega
 have ht:=h.a.t.trans' t (fun i hi e=>by have:=h.a.t.size;omega)
 exact⟨⟨Qab h.a.own t (hb h.a.own),ht⟩,⟨Qab h.b.own t (hb h.b.own),ht⟩,h.d⟩
theorem Rw2.left {w wr wf:World} {s8 s9 v':Value} {N1 N2:List WY} {y:WY} (h:Rw2 w wr s8 s9 N1 N2) (own:wf.ownsRow w.heap.size 47 10 v' (N1.length+1) (cellsG WY.cs N1++y.cs)) (t:Touch (fun j=>s8.ownBlock=some j) wr wf) (hd:v'.ownBlock=s8.ownBlock∨∀j,v'.ownBlock=some j→wr.heap.size≤j):Rw2 w wf v' s9 (N1++[y]) N2:=by
 have ht:=h.a.t.trans' t (fun i hi e=>by have:=(h.a.own.lt i e).1;omega)
 refine⟨⟨?_,ht⟩,⟨Qab h.b.own t (fun j hj e=>h.d j e hj),ht⟩,fun j h1 h2=>?_⟩
 ·rw [List.length_append,Qap]
  have e:cellsG WY.cs [y]=y.cs:=by simp [cellsG]
  rw [e]
  exact own
 ·rcases hd with hd|hd
  ·exact h.d j (by rw [←hd];exact h1) h2
  ·have:=hd j h1
   have:=(h.b.own.lt j h2).2
   omega
theorem Rw2.swap {w wr:World} {s8 s9:Value} {N1 N2:List WY} (h:Rw2 w wr s8 s9 N1 N2):Rw2 w wr s9 s8 N2 N1:=⟨h.b,h.a,h.d.symm⟩
structure BRouP (w:World) (T:List WY) (me area:Int) (S:List SE) (e:Ending) (w':World):Prop where
 out:∃(v1 v2:Value) (N1 N2 L:List WY),e=.returned (.tuple #[v1,v2])∧WB1 w w' v1 N1∧WB1 w w' v2 N2∧L.Perm (leadsY T me S)∧(L.map (·.x)).Pairwise WP.wle∧N1.map (·.x)=netsP area (bestP (L.map (·.x)))∧N2.map (·.x)=bdsP area me (bestP (L.map (·.x)))
theorem Qcw (va:Option Addr) (vc:Nat) (S:List SE) (vb:Value) (T:List WY) (me area:Int) (w:World) (A:StatesAt w (.slice va S.length vc) S) (Cc:WRd w vb T) (hf:∀y∈T,0≤y.x.flags∧y.x.flags≤255) (hco:∀y∈T,0≤y.x.cost∧y.x.cost≤4294967295) (hl:S.length≤60) (ht:T.length≤60) (hS:∀x∈S,x.rs.length≤1000000) :
  Calls Tryz.prog 13 #[.slice va S.length vc,.int .u32 area,.int .u32 me,vb] w (BRouP w T me area S):=by
 have HBE:=Qg3 va vc S vb T me w A Cc hf hco hl ht hS
 obtain⟨ba,bc,rfl,-⟩:=Cc.sh
 have HLE:Hid (∀L:List WY,L.Perm (leadsY T me S)→L.length≤60):=fun L hp=>by
  have h:=Qb6 T me S S.length
  rw [List.take_of_length_le (Nat.le_refl _)] at h
  rw [hp.length_eq]
  exact Nat.le_trans h hl
 clear A Cc hf hco hl ht hS
 generalize S.length=sl at *
 generalize T.length=tl at *
 go_enter Tryz.func13,Tryz.ntmps13
 go_wp2_with (go_at_call 28;refine HBE.mono ?_;rintro e wb hP;obtain⟨v,M,L,rfl,hM,hp,hs,hx⟩:=hP.out;obtain⟨ka,kc,rfl⟩:=Qal hM.b.own;have HM:Hid (WB1 w wb (.slice ka M.length kc) M):=hM;have HLP:Hid (L.Perm (leadsY T me S)):=hp;have HLS:Hid ((L.map (·.x)).Pairwise WP.wle):=hs;have HMX:Hid (M.map (·.x)=bestP (L.map (·.x))):=hx;clear hM hp hs hx hP)
 clear HBE
 have HNB:Hid (M.length≤60):=by
  have e:=congrArg List.length HMX.out
  unfold bestP at e
  simp only [List.length_map] at e
  have h1:=Ql7 (L.map (·.x))
  rw [List.length_map] at h1
  have h2:=HLE.out L HLP.out
  show _≤_
  omega
 generalize hnm:M.length=n at *
 have HNM:Hid (M.length=n):=hnm
 clear hnm
 have hn60:(n:Int)≤60:=by have:=HNB.out;omega
 have H0:Hid (Rw2 wb wb (.slice none 0 0) (.slice none 0 0) [] []):=⟨VBuf.nil _ _ (Touch.refl _ _),VBuf.nil _ _ (Touch.refl _ _),fun k h=>by cases h⟩
 go_loopg [8,9,17] n (fun gg s8 s9 s17 wr=>∃(k:Nat) (N1 N2:List WY) (a8 a9:Option Addr) (c8 c9:Nat),k≤n∧n-k≤gg∧s17=.int .i64 k∧s8=.slice a8 N1.length c8∧s9=.slice a9 N2.length c9∧Rw2 wb wr (.slice a8 N1.length c8) (.slice a9 N2.length c9) N1 N2∧N1.length≤k∧N2.length≤k∧N1.map (·.x)=netsP area ((M.map (·.x)).take k)∧N2.map (·.x)=bdsP area me ((M.map (·.x)).take k)∧(∀y,y∈N1∨y∈N2→∃q∈M,y.hv=q.hv∧y.x.hs=q.x.hs))
 case atStart=>exact⟨0,[],[],none,none,0,0,Nat.zero_le _,Nat.le_refl _,rfl,rfl,rfl,H0.out,Nat.le_refl _,Nat.le_refl _,rfl,rfl,fun y h=>by rcases h with h|h <;> cases h⟩
 case round =>
  clear H0
  obtain⟨k,N1,N2,a8,a9,c8,c9,hk,hgk,rfl,rfl,rfl,hr,h1l,h2l,h1x,h2x,hhs⟩:=hrel
  have HR:Hid (Rw2 wb wr (.slice a8 N1.length c8) (.slice a9 N2.length c9) N1 N2):=hr
  have H1L:Hid (N1.length≤k):=h1l
  have H2L:Hid (N2.length≤k):=h2l
  have H1X:Hid (N1.map (·.x)=netsP area ((M.map (·.x)).take k)):=h1x
  have H2X:Hid (N2.map (·.x)=bdsP area me ((M.map (·.x)).take k)):=h2x
  have HHS:Hid (∀y,y∈N1∨y∈N2→∃q∈M,y.hv=q.hv∧y.x.hs=q.x.hs):=hhs
  clear hr h1l h2l h1x h2x hhs
  by_cases hlt:k<n
  ·skip
   have hlt':(k:Int)<(n:Int):=Qbl hlt
   have hk00:(0:Int)≤(k:Int):=Qa6 _
   have hkw:wrap64 ((k:Int)+1)=(k:Int)+1:=Qes (Nat.le_trans (Nat.le_trans (Nat.le_of_lt hlt) HNB.out) (by decide))
   have HGK:Hid (k<n∧n-k≤gk):=⟨hlt,hgk⟩
   obtain⟨z,hz⟩:=Qco HNM.out hlt
   have HZM:Hid (z∈M):=List.mem_of_getElem? hz
   have HZX:Hid ((M.map (·.x))[k]?=some z.x):=by rw [List.getElem?_map,hz];rfl
   have HMr:Hid (WB1 w wr (.slice ka n kc) M):=HM.out.keep HR.out.a.t
   obtain⟨za,zc,ezv⟩:=Qal (HMr.out.h z HZM.out)
   have EZV:Hid (z.hv=.slice za z.x.hs.length zc):=ezv
   obtain⟨g,oo,rfl,⟨e0,e1,e2,e3,e4,e5,e6,e7,e8,e9⟩⟩:=Qbq (Qfj (VBuf.vals HMr.out.b) HNM.out) hz
   rw [EZV.out] at e9
   have lg:=Qaa e0
   obtain⟨bx,hbx⟩:∃b,b=wr.heap.size:=⟨_,rfl⟩
   have HBX:Hid (bx=wr.heap.size):=hbx
   have HRX:Hid (Row (wr.alloc (.cells #[.int .u32 z.x.p.addr,.int .u8 z.x.p.bits,.int .u32 z.x.router,.int .u8 z.x.flags,.int .u8 2,.int .u32 area,.int .u32 z.x.cost,.int .u32 z.x.dist,.int .u32 z.x.tag,.slice za z.x.hs.length zc] 47)) bx 47 [.int .u32 z.x.p.addr,.int .u8 z.x.p.bits,.int .u32 z.x.router,.int .u8 z.x.flags,.int .u8 2,.int .u32 area,.int .u32 z.x.cost,.int .u32 z.x.dist,.int .u32 z.x.tag,.slice za z.x.hs.length zc]):=by rw [hbx];exact Qac _ _ _
   have HTX:Hid (Touch (fun j=>j=bx) wr (wr.alloc (.cells #[.int .u32 z.x.p.addr,.int .u8 z.x.p.bits,.int .u32 z.x.router,.int .u8 z.x.flags,.int .u8 2,.int .u32 area,.int .u32 z.x.cost,.int .u32 z.x.dist,.int .u32 z.x.tag,.slice za z.x.hs.length zc] 47))):=(Touch.refl _ _).alloc _
   clear hz ezv
   go_upto_region 5 with fail
   rw [←hbx]
   clear e0 e1 e2 e3 e4 e5 e6 e7 e8 e9 lg hbx
   generalize wr.alloc (.cells #[.int .u32 z.x.p.addr,.int .u8 z.x.p.bits,.int .u32 z.x.router,.int .u8 z.x.flags,.int .u8 2,.int .u32 area,.int .u32 z.x.cost,.int .u32 z.x.dist,.int .u32 z.x.tag,.slice za z.x.hs.length zc] 47)=wa at *
   have x0:wa.cell? ⟨bx,0,none⟩=some (.int .u32 z.x.p.addr):=HRX.out.cell 0
   have x1:wa.cell? ⟨bx,1,none⟩=some (.int .u8 z.x.p.bits):=HRX.out.cell 1
   have x2:wa.cell? ⟨bx,2,none⟩=some (.int .u32 z.x.router):=HRX.out.cell 2
   have x3:wa.cell? ⟨bx,3,none⟩=some (.int .u8 z.x.flags):=HRX.out.cell 3
   have x4:wa.cell? ⟨bx,4,none⟩=some (.int .u8 2):=HRX.out.cell 4
   have x5:wa.cell? ⟨bx,5,none⟩=some (.int .u32 area):=HRX.out.cell 5
   have x6:wa.cell? ⟨bx,6,none⟩=some (.int .u32 z.x.cost):=HRX.out.cell 6
   have x7:wa.cell? ⟨bx,7,none⟩=some (.int .u32 z.x.dist):=HRX.out.cell 7
   have x8:wa.cell? ⟨bx,8,none⟩=some (.int .u32 z.x.tag):=HRX.out.cell 8
   have x9:wa.cell? ⟨bx,9,none⟩=some (.slice za z.x.hs.length zc):=HRX.out.cell 9
   have lx:=HRX.out.lt
   have fx:=HRX.out.frozen
   by_cases h0:z.x.router=0
   ·skip
    have h0':(z.x.router==0)=true:=by simpa using h0
    have HRN:Hid (Rw2 wb wa (.slice a8 N1.length c8) (.slice a9 N2.length c9) N1 N2):=HR.out.fresh (by rw [HBX.out];exact Nat.le_refl _) HTX.out
    have H00:Hid (z.x.router=0):=h0
    clear h0
    have RAw:=Qac wa 47 #[.int .u32 z.x.p.addr,.int .u8 z.x.p.bits,.int .u32 z.x.router,.int .u8 z.x.flags,.int .u8 2,.int .u32 area,.int .u32 z.x.cost,.int .u32 z.x.dist,.int .u32 z.x.tag,.slice za z.x.hs.length zc]
    have T8:Touch (fun _=>False) wa (wa.alloc (.cells #[.int .u32 z.x.p.addr,.int .u8 z.x.p.bits,.int .u32 z.x.router,.int .u8 z.x.flags,.int .u8 2,.int .u32 area,.int .u32 z.x.cost,.int .u32 z.x.dist,.int .u32 z.x.tag,.slice za z.x.hs.length zc] 47)):=(Touch.refl _ _).alloc _
    have HNA:Hid (∀(j:Nat) u,([.int .u32 z.x.p.addr,.int .u8 z.x.p.bits,.int .u32 z.x.router,.int .u8 z.x.flags,.int .u8 2,.int .u32 area,.int .u32 z.x.cost,.int .u32 z.x.dist,.int .u32 z.x.tag,.slice za z.x.hs.length zc]:List Value)[j]?=some u→(wa.alloc (.cells #[.int .u32 z.x.p.addr,.int .u8 z.x.p.bits,.int .u32 z.x.router,.int .u8 z.x.flags,.int .u8 2,.int .u32 area,.int .u32 z.x.cost,.int .u32 z.x.dist,.int .u32 z.x.tag,.slice za z.x.hs.length zc] 47)).cell? ((⟨wa.heap.size,0,none⟩:Addr).add j)=some u):=fun j u hj=>by rw [Qah,Nat.zero_add,RAw.cell j];exact hj
    have HRe:Hid (Rw2 wb (wa.alloc (.cells #[.int .u32 z.x.p.addr,.int .u8 z.x.p.bits,.int .u32 z.x.router,.int .u8 z.x.flags,.int .u8 2,.int .u32 area,.int .u32 z.x.cost,.int .u32 z.x.dist,.int .u32 z.x.tag,.slice za z.x.hs.length zc] 47)) (.slice a8 N1.length c8) (.slice a9 N2.length c9) N1 N2):=HRN.out.keep T8
    have HSZe:Hid (wb.heap.size≤(wa.alloc (.cells #[.int .u32 z.x.p.addr,.int .u8 z.x.p.bits,.int .u32 z.x.router,.int .u8 z.x.flags,.int .u8 2,.int .u32 area,.int .u32 z.x.cost,.int .u32 z.x.dist,.int .u32 z.x.tag,.slice za z.x.hs.length zc] 47)).heap.size):=HRe.out.a.t.size
    have HLN:Hid (N1.length+1≤1099511627776):=by have h1:=H1L.out;have h2:=HGK.out.1;have h3:=HNB.out;show _≤_;omega
    have HOW8:Hid ((wa.alloc (.cells #[.int .u32 z.x.p.addr,.int .u8 z.x.p.bits,.int .u32 z.x.router,.int .u8 z.x.flags,.int .u8 2,.int .u32 area,.int .u32 z.x.cost,.int .u32 z.x.dist,.int .u32 z.x.tag,.slice za z.x.hs.length zc] 47)).ownsRow wb.heap.size 47 10 (.slice a8 N1.length c8) N1.length (cellsG WY.cs N1)):=HRe.out.a.own
    clear RAw T8
    go_wp2_with (at_builtin;refine Qfp rfl (.tmp 33) (.tmp 35) 31 rfl 47 10 56 (.agg #[.int .u32 0,.int .u8 0,.int .u32 0,.int .u8 0,.int .u8 0,.int .u32 0,.int .u32 0,.int .u32 0,.int .u32 0,.slice none 0 0]) Tryz.underlying31 infoWay rfl (by decide) (by decide) wb.heap.size (.slice a8 N1.length c8) N1.length _ rfl HOW8.out HSZe.out ⟨wa.heap.size,0,none⟩ 1 1 [.int .u32 z.x.p.addr,.int .u8 z.x.p.bits,.int .u32 z.x.router,.int .u8 z.x.flags,.int .u8 2,.int .u32 area,.int .u32 z.x.cost,.int .u32 z.x.dist,.int .u32 z.x.tag,.slice za z.x.hs.length zc] rfl rfl HNA.out (Qbw _ _ _ _ _ _ _ _ _ _ _ _) HLN.out ?_)
    intro v' wf hown TG hvv
    have HNK:Hid (Rw2 wb wf v' (.slice a9 N2.length c9) (N1++[⟨netW area z.x,.slice za z.x.hs.length zc⟩]) N2):=HRe.out.left hown TG (by rw [World.size_alloc];exact hvv)
    obtain⟨f1,f2,rfl⟩:=Qal hown
    clear hown TG hvv HRe HSZe HNA HOW8 HLN HRN
    go_wp2_with fail
    go_roundg (n-(k+1))
    case measure=>exact Qbz HGK.out.1 HGK.out.2
    case rel=>exact⟨k+1,N1++[⟨netW area z.x,.slice za z.x.hs.length zc⟩],N2,f1,a9,f2,c9,HGK.out.1,Nat.le_refl _,by first|exact Qam hkw|exact Qam rfl,by rw [List.length_append];rfl,rfl,by rw [List.length_append];exact HNK.out,by rw [List.length_append];exact Nat.add_le_add_right H1L.out 1,Nat.le_succ_of_le H2L.out,by rw [Qi5 HZX.out H00.out,List.map_append,H1X.out];rfl,H2X.out.trans (Qi7 HZX.out (Or.inl H00.out)).symm,fun y hy=>by rcases hy with hy|hy;exact (List.mem_append.1 hy).elim (fun hy=>HHS.out y (Or.inl hy)) (fun hy=>by obtain rfl:=List.mem_singleton.1 hy;exact⟨z,HZM.out,EZV.out.symm,rfl⟩);exact HHS.out y (Or.inr hy)⟩
   ·have h0':(z.x.router==0)=false:=by simpa using h0
    by_cases hm:z.x.router=me
    ·have hm':(z.x.router==me)=true:=by simpa using hm
     have HRN:Hid (Rw2 wb wa (.slice a8 N1.length c8) (.slice a9 N2.length c9) N1 N2):=HR.out.fresh (by rw [HBX.out];exact Nat.le_refl _) HTX.out
     have HM0:Hid (z.x.router=me):=hm
     clear hm
     go_wp2_with fail
     go_roundg (n-(k+1))
     case measure=>exact Qbz HGK.out.1 HGK.out.2
     case rel=>exact⟨k+1,N1,N2,a8,a9,c8,c9,HGK.out.1,Nat.le_refl _,by first|exact Qam hkw|exact Qam rfl,rfl,rfl,HRN.out,Nat.le_succ_of_le H1L.out,Nat.le_succ_of_le H2L.out,H1X.out.trans (Qgw HZX.out h0).symm,H2X.out.trans (Qi7 HZX.out (Or.inr HM0.out)).symm,HHS.out⟩
    ·have hm':(z.x.router==me)=false:=by simpa using hm
     have HM0:Hid (¬z.x.router=me):=hm
     have H00:Hid (¬z.x.router=0):=h0
     clear hm h0
     have HRY:Hid (Row (wa.setCell ⟨bx,3,none⟩ (.int .u8 2)) bx 47 [.int .u32 z.x.p.addr,.int .u8 z.x.p.bits,.int .u32 z.x.router,.int .u8 2,.int .u8 2,.int .u32 area,.int .u32 z.x.cost,.int .u32 z.x.dist,.int .u32 z.x.tag,.slice za z.x.hs.length zc]):=HRX.out.set 3 _
     have HTY:Hid (Touch (fun j=>j=bx) wr (wa.setCell ⟨bx,3,none⟩ (.int .u8 2))):=HTX.out.trans (Touch.setCell (F:=fun j=>j=bx) (p:=⟨bx,3,none⟩) (Touch.refl _ _) (Or.inl rfl) _)
     go_upto_region 7 with fail
     clear x0 x1 x2 x3 x4 x5 x6 x7 x8 x9 lx fx HRX HTX
     generalize wa.setCell ⟨bx,3,none⟩ (.int .u8 2)=wd at *
     have x0:wd.cell? ⟨bx,0,none⟩=some (.int .u32 z.x.p.addr):=HRY.out.cell 0
     have x1:wd.cell? ⟨bx,1,none⟩=some (.int .u8 z.x.p.bits):=HRY.out.cell 1
     have x2:wd.cell? ⟨bx,2,none⟩=some (.int .u32 z.x.router):=HRY.out.cell 2
     have x3:wd.cell? ⟨bx,3,none⟩=some (.int .u8 2):=HRY.out.cell 3
     have x4:wd.cell? ⟨bx,4,none⟩=some (.int .u8 2):=HRY.out.cell 4
     have x5:wd.cell? ⟨bx,5,none⟩=some (.int .u32 area):=HRY.out.cell 5
     have x6:wd.cell? ⟨bx,6,none⟩=some (.int .u32 z.x.cost):=HRY.out.cell 6
     have x7:wd.cell? ⟨bx,7,none⟩=some (.int .u32 z.x.dist):=HRY.out.cell 7
     have x8:wd.cell? ⟨bx,8,none⟩=some (.int .u32 z.x.tag):=HRY.out.cell 8
     have x9:wd.cell? ⟨bx,9,none⟩=some (.slice za z.x.hs.length zc):=HRY.out.cell 9
     have lx:=HRY.out.lt
     have HRN:Hid (Rw2 wb wd (.slice a8 N1.length c8) (.slice a9 N2.length c9) N1 N2):=HR.out.fresh (by rw [HBX.out];exact Nat.le_refl _) HTY.out
     have RAw:=Qac wd 47 #[.int .u32 z.x.p.addr,.int .u8 z.x.p.bits,.int .u32 z.x.router,.int .u8 2,.int .u8 2,.int .u32 area,.int .u32 z.x.cost,.int .u32 z.x.dist,.int .u32 z.x.tag,.slice za z.x.hs.length zc]
     have T8:Touch (fun _=>False) wd (wd.alloc (.cells #[.int .u32 z.x.p.addr,.int .u8 z.x.p.bits,.int .u32 z.x.router,.int .u8 2,.int .u8 2,.int .u32 area,.int .u32 z.x.cost,.int .u32 z.x.dist,.int .u32 z.x.tag,.slice za z.x.hs.length zc] 47)):=(Touch.refl _ _).alloc _
     have HNA:Hid (∀(j:Nat) u,([.int .u32 z.x.p.addr,.int .u8 z.x.p.bits,.int .u32 z.x.router,.int .u8 2,.int .u8 2,.int .u32 area,.int .u32 z.x.cost,.int .u32 z.x.dist,.int .u32 z.x.tag,.slice za z.x.hs.length zc]:List Value)[j]?=some u→(wd.alloc (.cells #[.int .u32 z.x.p.addr,.int .u8 z.x.p.bits,.int .u32 z.x.router,.int .u8 2,.int .u8 2,.int .u32 area,.int .u32 z.x.cost,.int .u32 z.x.dist,.int .u32 z.x.tag,.slice za z.x.hs.length zc] 47)).cell? ((⟨wd.heap.size,0,none⟩:Addr).add j)=some u):=fun j u hj=>by rw [Qah,Nat.zero_add,RAw.cell j];exact hj
     have HRe:Hid (Rw2 wb (wd.alloc (.cells #[.int .u32 z.x.p.addr,.int .u8 z.x.p.bits,.int .u32 z.x.router,.int .u8 2,.int .u8 2,.int .u32 area,.int .u32 z.x.cost,.int .u32 z.x.dist,.int .u32 z.x.tag,.slice za z.x.hs.length zc] 47)) (.slice a8 N1.length c8) (.slice a9 N2.length c9) N1 N2):=HRN.out.keep T8
     have HSZe:Hid (wb.heap.size≤(wd.alloc (.cells #[.int .u32 z.x.p.addr,.int .u8 z.x.p.bits,.int .u32 z.x.router,.int .u8 2,.int .u8 2,.int .u32 area,.int .u32 z.x.cost,.int .u32 z.x.dist,.int .u32 z.x.tag,.slice za z.x.hs.length zc] 47)).heap.size):=HRe.out.a.t.size
     have HLN:Hid (N2.length+1≤1099511627776):=by have h1:=H2L.out;have h2:=HGK.out.1;have h3:=HNB.out;show _≤_;omega
     have HOW8:Hid ((wd.alloc (.cells #[.int .u32 z.x.p.addr,.int .u8 z.x.p.bits,.int .u32 z.x.router,.int .u8 2,.int .u8 2,.int .u32 area,.int .u32 z.x.cost,.int .u32 z.x.dist,.int .u32 z.x.tag,.slice za z.x.hs.length zc] 47)).ownsRow wb.heap.size 47 10 (.slice a9 N2.length c9) N2.length (cellsG WY.cs N2)):=HRe.out.b.own
     clear RAw T8
     go_wp2_with (at_builtin;refine Qfp rfl (.tmp 27) (.tmp 29) 31 rfl 47 10 56 (.agg #[.int .u32 0,.int .u8 0,.int .u32 0,.int .u8 0,.int .u8 0,.int .u32 0,.int .u32 0,.int .u32 0,.int .u32 0,.slice none 0 0]) Tryz.underlying31 infoWay rfl (by decide) (by decide) wb.heap.size (.slice a9 N2.length c9) N2.length _ rfl HOW8.out HSZe.out ⟨wd.heap.size,0,none⟩ 1 1 [.int .u32 z.x.p.addr,.int .u8 z.x.p.bits,.int .u32 z.x.router,.int .u8 2,.int .u8 2,.int .u32 area,.int .u32 z.x.cost,.int .u32 z.x.dist,.int .u32 z.x.tag,.slice za z.x.hs.length zc] rfl rfl HNA.out (Qbw _ _ _ _ _ _ _ _ _ _ _ _) HLN.out ?_)
     intro v' wf hown TG hvv
     have HNK:Hid (Rw2 wb wf (.slice a8 N1.length c8) v' N1 (N2++[⟨bdW area z.x,.slice za z.x.hs.length zc⟩])):=(HRe.out.swap.left hown TG (by rw [World.size_alloc];exact hvv)).swap
     obtain⟨f1,f2,rfl⟩:=Qal hown
     clear hown TG hvv HRe HSZe HNA HOW8 HLN HRN
     go_wp2_with fail
     go_roundg (n-(k+1))
     case measure=>exact Qbz HGK.out.1 HGK.out.2
     case rel=>exact⟨k+1,N1,N2++[⟨bdW area z.x,.slice za z.x.hs.length zc⟩],a8,f1,c8,f2,HGK.out.1,Nat.le_refl _,by first|exact Qam hkw|exact Qam rfl,rfl,by rw [List.length_append];rfl,by rw [List.length_append];exact HNK.out,Nat.le_succ_of_le H1L.out,by rw [List.length_append];exact Nat.add_le_add_right H2L.out 1,H1X.out.trans (Qgw HZX.out H00.out).symm,by rw [Qkv HZX.out H00.out HM0.out,List.map_append,H2X.out];rfl,fun y hy=>by rcases hy with hy|hy;exact HHS.out y (Or.inl hy);exact (List.mem_append.1 hy).elim (fun hy=>HHS.out y (Or.inr hy)) (fun hy=>by obtain rfl:=List.mem_singleton.1 hy;exact⟨z,HZM.out,EZV.out.symm,rfl⟩)⟩
  ·skip
   obtain rfl:k=n:=Nat.le_antisymm hk (Nat.le_of_not_lt hlt)
   have hlt':¬(k:Int)<(k:Int):=Int.lt_irrefl _
   have HTT:Hid ((M.map (·.x)).take k=bestP (L.map (·.x))):=by show _=_;rw [List.take_of_length_le (by rw [List.length_map,HNM.out];exact Nat.le_refl _),HMX.out]
   have HMr:Hid (WB1 w wr (.slice ka k kc) M):=HM.out.keep HR.out.a.t
   have HHO:Hid (∀y,y∈N1∨y∈N2→HO wr y.hv y.x.hs):=fun y hy=>by obtain⟨q,hq,e1,e2⟩:=HHS.out y hy;rw [e1,e2];exact HMr.out.h q hq
   have HWT:Hid (Touch (fun _=>False) w wb∧w.heap.size≤wb.heap.size):=⟨HM.out.b.t,HM.out.b.t.size⟩
   go_wp2_with fail
   refine bodyPost_ret (v:=.tuple #[.slice a8 N1.length c8,.slice a9 N2.length c9]) (by simp [results,Tryz.results13,go_sem]) rfl ?_
   exact⟨_,_,N1,N2,L,rfl,⟨HR.out.a.back HWT.out.1,fun y hy=>HHO.out y (Or.inl hy)⟩,⟨HR.out.b.back HWT.out.1,fun y hy=>HHO.out y (Or.inr hy)⟩,HLP.out,HLS.out,by rw [←HTT.out];exact H1X.out,by rw [←HTT.out];exact H2X.out⟩
end Go.Proofs.YtldmkoogghemhaaGreat
