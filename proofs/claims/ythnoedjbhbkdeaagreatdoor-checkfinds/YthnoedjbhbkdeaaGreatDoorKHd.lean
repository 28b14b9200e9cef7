import Derived.Test.YthnoedjbhbkdeaaGreatDoorKHc
import Derived.Test.YthnoedjbhbkdeaaGreatDoorKXa
import Derived.Test.YthnoedjbhbkdeaaGreatDoorKPc
import Derived.Laws.OwnMore
import Derived.Deep.RegionHeld3
set_option maxRecDepth 100000
set_option maxHeartbeats 4000000
namespace Go.Proofs.YthnoedjbhbkdeaaGreatDoor
open Go.RowKit Go.Sort
open Tp (Bs Th Seen Ck)
theorem imps_i {own:Bs}{Sn:Seen}{l:List Bs}{i:Nat}(h:i<l.length):Tp.imps own Sn (l.take i).reverse (l.drop i)=if l[i]=own\/l[i]∈l.take i then some (10,none) else if Sn l[i]=none then some (8,none) else Tp.imps own Sn (l.take (i+1)).reverse (l.drop (i+1)):=by
 rw[List.drop_eq_getElem_cons h,Tp.imps,List.take_succ_eq_append_getElem h,List.reverse_append]
 simp
def cntF (l:List Bs):Bs->Option Value:=fun k=>if k∈l then some (.int .i64 1) else none
def nmsT (l:List Th) (i:Nat):List Bs:=(l.take i).map (·.1)
structure Cn (w:World) (gb:Nat) (l:List Th) (i:Nat):Prop where
 mp:MapV w gb i (cntF (nmsT l i))
 tw:Tp.twr l 0=Tp.twr l i
theorem Cn.on {w w':World}{gb i:Nat}{l:List Th}(h:Cn w gb l i) (k:w'.heap[gb]?=w.heap[gb]?):Cn w' gb l i:=⟨h.mp.on k,h.tw⟩
theorem Cn.zero (w:World) (l:List Th):Cn (w.alloc (.map #[] 0)) w.heap.size l 0:=by
 refine⟨?_,rfl⟩
 have:=MapV.made w
 have e:cntF (nmsT l 0)=fun _=>none:=by funext k;simp[cntF,nmsT]
 rw[e]
 exact this
theorem Cn.dup {w:World}{gb i:Nat}{l:List Th}{x:Th}(h:Cn w gb l i) (hx:l[i]?=some x) (hm:x.1∈nmsT l i):Tp.twr l 0=some (9,some x.2.1):=by
 obtain⟨hi,e⟩:=List.getElem?_eq_some_iff.1 hx
 have hm':x.1∈(l.take i).map (·.1):=hm
 rw[h.tw,Tp.twr_step l i hi,e,if_pos hm']
theorem Cn.next {w w':World}{gb i:Nat}{l:List Th}{x:Th}(h:Cn w gb l i) (hx:l[i]?=some x) (hm:¬x.1∈nmsT l i) (q:MapV w' gb (i+1) (updV (cntF (nmsT l i)) x.1 (.int .i64 1))):Cn w' gb l (i+1):=by
 obtain⟨hi,e⟩:=List.getElem?_eq_some_iff.1 hx
 have hm':¬x.1∈(l.take i).map (·.1):=hm
 refine⟨?_,by rw[h.tw,Tp.twr_step l i hi,e,if_neg hm']⟩
 have e2:cntF (nmsT l (i+1))=updV (cntF (nmsT l i)) x.1 (.int .i64 1):=by
  funext k
  unfold cntF updV nmsT
  rw[List.take_succ_eq_append_getElem hi,e,List.map_append]
  show _=if k=x.1 then some (Value.int .i64 1) else if k∈(l.take i).map (·.1) then some (Value.int .i64 1) else none
  by_cases hk:k=x.1
  ·rw[if_pos hk,if_pos (List.mem_append.2 (Or.inr (by simp[hk])))]
  ·rw[if_neg hk]
   by_cases hq:k∈(l.take i).map (·.1)
   ·rw[if_pos hq,if_pos (List.mem_append.2 (Or.inl hq))]
   ·rw[if_neg hq,if_neg]
    intro z
    rcases List.mem_append.1 z with z|z
    ·exact hq z
    ·exact hk (by simpa using z)
 rw[e2]
 exact q
theorem Cn.fin {w:World}{gb i:Nat}{l:List Th}(h:Cn w gb l i) (hi:l.length<=i):Tp.twr l 0=none:=by rw[h.tw,Tp.twr_all l i hi]
@[go_sem] theorem zeroInt (w:World):(zeroValue 3).run Tryz.prog w=.ok (.int .i64 0) w:=by kernel_rfl
theorem ki {w:World}{b n:Nat}{l:List Bs}(h:MapV w b n (cntF l)) {x:Bs}(hx:x.length<=1000000):(Instr.lookup 80 (.map (some b)) (.string (bs x)) false).run Tryz.prog w=.ok (.int .i64 (if x∈l then 1 else 0)) w:=by
 have:=h.look (t:=80) Tryz.underlying80 (zeroInt w) x hx false
 rw[this]
 unfold cntF
 by_cases hm:x∈l
 ·rw[if_pos hm,if_pos hm];rfl
 ·rw[if_neg hm,if_neg hm];rfl
theorem yU {w:World}{b n:Nat}{f:Bs->Option Value}{x:Bs}{v:Value}(h:MapV w b n (updV f x v)) (hx:x.length<=1000000):(Instr.lookup 80 (.map (some b)) (.string (bs x)) false).run Tryz.prog w=.ok v w:=by
 have:=h.look (t:=80) Tryz.underlying80 (zeroInt w) x hx false
 rw[this]
 simp[updV]
theorem ja (n:Int) (w:World):Calls Tryz.prog 79 #[.int .i64 n] w fun e w'=>e=.returned (.agg #[.int .i64 n,.int .i64 (-1)])/\Below w.heap.size w w':=by
 have HB:Hid (∀ a b,Below w.heap.size w (((w.alloc (.cells #[.int .i64 0,.int .i64 0] 30)).setCell ⟨w.heap.size,0,none⟩ a).setCell ⟨w.heap.size,1,none⟩ b)):=fun a b=>b2 (zb _ _) zn _ _
 have HB':Hid (∀ ob,Below w.heap.size w (w.alloc ob)):=fun ob=>zb _ _
 go_enter Tryz.func79,Tryz.ntmps79
 go_wp2_with fail
 first
  | exact bodyPost_ret (v:=.agg #[.int .i64 n,.int .i64 (-1)]) (by simp[results,Tryz.results79,go_sem]) rfl ⟨rfl,HB'.out _⟩
  | exact bodyPost_ret (v:=.agg #[.int .i64 n,.int .i64 (-1)]) (by simp[results,Tryz.results79,go_sem]) rfl ⟨rfl,HB.out _ _⟩
theorem yP {P:Program}{ops:Array Oper}{o:Oper}{a:Act}{w:World}{K:Act->World->Prop}{Q:Exit->Act->World->Prop}{E:Prop}
  (hg:o.guard=none) (s x:Operand) (t:TypeId) (hop:o.op=Op.call { callee:=Callee.builtin Builtin.append,args:=#[s,x],argTypes:=#[t,t] })
  (base:Nat) (e:TypeId) (i:TypeInfo) (z:Value) (size bytes:Nat) (ht:P.underlying t=some (.slice e)) (hi:P.info? e=some i) (hz:i.zero=some z)
  (hsize:i.size=size) (hby:i.bytes=bytes) (hzs:z.cells.size=size) (hsz:0<size)
  (v:Value) (n:Nat) (xs:List Value) (hs:a.eval s=v) (hown:w.ownsRow base e size v n xs)
  (D:Nat->Prop) (vx:Value) (m:Nat) (news:List Value) (hx:a.eval x=vx) (hrow:Row w D e size vx m news) (hl:news.length=m * size) (h1:∀ u∈news,u.oneCell'=true)
  (h63:n+m<=maxLen) (hbytes:(n+m) * bytes<=140737488355328) (hbase:base<=w.heap.size)
  (hK:∀ v' w',w'.ownsRow base e size v' (n+m) (xs++news)->w.grownBy w' v.ownBlock->(∀ g,v'.ownBlock=some g->v.ownBlock=some g\/w.heap.size<=g)->K (a.put o.dst v') w') :
  if Region.wanted o (yielded ops a.tmps)=true then Oper.wp P o a w K Q else E:=by
 rcases hrow with⟨rfl,rfl,rfl⟩|⟨g,cap,cur,rfl,hD,hb,hcap,hmx,hsz',htk⟩
 ·have hw:Region.wanted o (yielded ops a.tmps)=true:=by simp[Region.wanted,hg]
  rw[if_pos hw]
  have hr:=run_append_owned_none (P:=P) (w:=w) base t o.type e i size ht hi v n xs hown
  unfold Oper.wp
  simp[execOp,hop,resolve,invoke,builtin,hs,hx,hr,Result.andThen]
  exact hK v w (by simpa using hown) ⟨rfl,rfl,rfl,Nat.le_refl _,fun _ _ _=>rfl⟩ (fun g hg=>Or.inl hg)
 ·refine zD hg s x t hop base e i z size bytes ht hi hz hsize hby hzs hsz v n xs hs hown ⟨g,0,none⟩ m cap news hx hl (fun j u hj=>?_) h1 h63 hbytes hbase hK
  have hjl:j<m * size:=by rw[<-hl];exact(List.getElem?_eq_some_iff.1 hj).1
  rw[Addr.add_lit,za hb,Nat.zero_add,<-Array.getElem?_toList,<-hj,<-htk,List.getElem?_take_of_lt hjl]
theorem jz {n:Nat}{f:Nat->Ck}(h:∀ j,j<n->f j=none):(List.range n).findSome? f=none:=by
 rw[List.findSome?_eq_none_iff]
 intro x hx
 exact h x (List.mem_range.1 hx)
theorem jy {n i:Nat}{f:Nat->Ck}{x:Nat× Option Nat}(hi:i<n) (h:∀ j,j<i->f j=none) (hx:f i=some x):(List.range n).findSome? f=some x:=by
 obtain⟨k,rfl⟩:∃ k,n=i+(k+1):=⟨n - i - 1,by omega⟩
 have e:List.range (i+(k+1))=List.range i++i :: (List.range k).map (fun j=>i+(j+1)):=by
  rw[List.range_add,List.range_succ_eq_map]
  simp[Function.comp_def]
 rw[e,List.findSome?_append,jz h,List.findSome?_cons,hx]
 rfl
theorem ext_new {b b2:Nat}{w w1 w2:World}(h:Ext b w w1) (k:Ext b2 w1 w2) (hb:w.heap.size<=b2):Ext b w w2 :=
 ⟨k.os.trans h.os,k.tape.trans h.tape,k.output.trans h.output,Nat.le_trans h.size k.size,fun i hi hn=>(k.block i (Nat.lt_of_lt_of_le hi h.size) (by omega)).trans (h.block i hi hn)⟩
theorem strs_one (l:List Bs):(strs l).length=l.length * 1/\∀ u∈strs l,u.oneCell'=true:=⟨by simp[strs],fun u hu=>by simp[strs]at hu;obtain⟨b,_,rfl⟩:=hu;rfl⟩
theorem vk {B t n:Nat}{w1 w2 w3:World}{v:Value}{xs:List Value}(h:Below B w1 w2) (r:w2.grownBy w3 v.ownBlock) (ho:w2.ownsRow B t 1 v n xs) (hB:B<=w2.heap.size):Below B w1 w3:=by
 refine⟨r.os.trans h.os,r.tape.trans h.tape,r.output.trans h.output,Nat.le_trans h.size r.size,fun k hk=>(r.block k (Nat.lt_of_lt_of_le hk hB) (fun e=>?_)).trans (h.block k hk)⟩
 rcases ho.2 with⟨rfl,_⟩|⟨g,cap,cur,rfl,q1,_⟩
 ·simp[Value.ownBlock]at e
 ·simp[Value.ownBlock]at e
  omega
theorem strs_app (l m:List Bs):strs l++strs m=strs (l++m):=by simp[strs]
theorem vh {W:World}{b t:Nat}(h:W.heap[b]?=some (.cells #[] t (0,0))):W.ownsRow b t 1 (.slice (some ⟨b,0,none⟩) 0 0) 0 []:=⟨rfl,Or.inr ⟨b,0,#[],rfl,Nat.le_refl _,h,Nat.le_refl _,by unfold maxLen;omega,rfl,rfl⟩⟩
end Go.Proofs.YthnoedjbhbkdeaaGreatDoor
namespace Go.Proofs.YthnoedjbhbkdeaaGreatDoor
open Go.RowKit Go.Sort
structure LkI (wJ:World) (fb mb ob sb:Nat) (MC:Array Value) (ov:Value) (so:Option Nat) (f:Int× Int) (W:World):Prop where
 bel:Below wJ.heap.size wJ W
 fbk:W.heap[fb]?=some (.cells #[.int .i64 f.1,.int .i64 f.2] 30 (0,0))
 mbk:W.heap[mb]?=some (.cells MC 27 (0,0))
 obk:W.heap[ob]?=some (.cells #[ov] 22 (0,0))
 sbk:W.heap[sb]?=some (.cells #[.map so] 53 (0,0))
 lf:wJ.heap.size<=fb
theorem LkI.ext {wJ:World}{fb mb ob sb:Nat}{MC:Array Value}{ov:Value}{so:Option Nat}{f f':Int× Int}{W W':World}(h:LkI wJ fb mb ob sb MC ov so f W) (k:Ext fb W W') (hf:W'.heap[fb]?=some (.cells #[.int .i64 f'.1,.int .i64 f'.2] 30 (0,0))):LkI wJ fb mb ob sb MC ov so f' W':=by
 have n1:mb≠fb:=fun e=>by have:=h.mbk;rw[e,h.fbk]at this;simp at this
 have n2:ob≠fb:=fun e=>by have:=h.obk;rw[e,h.fbk]at this;simp at this
 have n3:sb≠fb:=fun e=>by have:=h.sbk;rw[e,h.fbk]at this;simp at this
 have hs:=h.bel.size
 have hl:=h.lf
 refine⟨⟨k.os.trans h.bel.os,k.tape.trans h.bel.tape,k.output.trans h.bel.output,Nat.le_trans hs k.size,fun i hi=>(k.block i (by omega) (by omega)).trans (h.bel.block i hi)⟩,hf,(k.block mb (zc h.mbk) n1).trans h.mbk,(k.block ob (zc h.obk) n2).trans h.obk,(k.block sb (zc h.sbk) n3).trans h.sbk,h.lf⟩
theorem LkI.on {wJ:World}{fb mb ob sb:Nat}{MC:Array Value}{ov:Value}{so:Option Nat}{f:Int× Int}{W W':World}(h:LkI wJ fb mb ob sb MC ov so f W) (k:Below W.heap.size W W'):LkI wJ fb mb ob sb MC ov so f W' :=
 h.ext ⟨k.os,k.tape,k.output,k.size,fun i hi _=>k.block i hi⟩ ((k.block fb (zc h.fbk)).trans h.fbk)
def stpF (c:Tp.Ck) (f:Int× Int):Int× Int:=if f=(0,-1) then ftC c else f
theorem look_post {wJ:World}{fb mb ob sb:Nat}{m0:ByteArray}{ia ga pa ba oa:Option Addr}{il ic gl gc pl pc bn bc on oc:Nat}{so:Option Nat}{f:Int× Int}{W:World}{xp:Option Addr}{c:Tp.Ck}
  (h:LkI wJ fb mb ob sb #[.string m0,.slice ia il ic,.slice ga gl gc,.slice pa pl pc,.slice ba bn bc] (.slice oa on oc) so f W) (hfine:W.cell? ⟨0,0,none⟩=some (.int .i64 0)/\W.cell? ⟨0,1,none⟩=some (.int .i64 (-1)))
  (hJ:Calls Tryz.prog 133 #[.agg #[.string m0,.slice ia il ic,.slice ga gl gc,.slice pa pl pc,.slice ba bn bc],.slice oa on oc,.map so,.pointer xp] W fun e w'=>JdP c e/\Below W.heap.size W w') :
  Calls Tryz.prog 132 #[.pointer xp,.pointer (some ⟨fb,0,none⟩),.pointer (some ⟨mb,0,none⟩),.pointer (some ⟨ob,0,none⟩),.pointer (some ⟨sb,0,none⟩)] W fun e w'=>e=.returned (.tuple #[])/\LkI wJ fb mb ob sb #[.string m0,.slice ia il ic,.slice ga gl gc,.slice pa pl pc,.slice ba bn bc] (.slice oa on oc) so (stpF c f) w'/\Ext fb W w':=by
 obtain⟨f1,f2⟩:=f
 have HL:=zh h
 have HJ:=zh hJ
 have g0:=hfine.1
 have g1:=hfine.2
 have hgl:=zi g0
 have k0:W.cell? ⟨fb,0,none⟩=some (.int .i64 f1):=za h.fbk
 have k1:W.cell? ⟨fb,1,none⟩=some (.int .i64 f2):=za h.fbk
 have hfl:=zc h.fbk
 by_cases hf:f1=0/\f2=-1
 ·obtain⟨rfl,rfl⟩:=hf
  have e0:W.cell? ⟨mb,0,none⟩=some (.string m0):=za h.mbk
  have e1:W.cell? ⟨mb,1,none⟩=some (.slice ia il ic):=za h.mbk
  have e2:W.cell? ⟨mb,2,none⟩=some (.slice ga gl gc):=za h.mbk
  have e3:W.cell? ⟨mb,3,none⟩=some (.slice pa pl pc):=za h.mbk
  have e4:W.cell? ⟨mb,4,none⟩=some (.slice ba bn bc):=za h.mbk
  have o0:W.cell? ⟨ob,0,none⟩=some (.slice oa on oc):=za h.obk
  have s0:W.cell? ⟨sb,0,none⟩=some (.map so):=za h.sbk
  have hml:=zc h.mbk
  have hol:=zc h.obk
  have hsl:=zc h.sbk
  clear h hJ hfine
  go_enter Tryz.func132,Tryz.ntmps132
  go_wp2_with fail
  refine HJ.out.mono ?_
  rintro e w2 ⟨hjd,hb2⟩
  unfold JdP at hjd
  subst hjd
  have hk2:=(hb2.block fb (zc HL.out.fbk)).trans HL.out.fbk
  have kr:∀ i,w2.cell? ⟨fb,i,none⟩=(#[.int .i64 0,.int .i64 (-1)]:Array Value)[i]?:=fun i=>za hk2
  have zr:∀ i,w2.frozen? ⟨fb,i,none⟩=false:=fun i=>zg hk2
  have hrl:=zc hk2
  have hx:Ext fb W ((w2.setCell ⟨fb,0,none⟩ (.int .i64 (ftC c).1)).setCell ⟨fb,1,none⟩ (.int .i64 (ftC c).2)):=((Ext.trans ⟨hb2.os,hb2.tape,hb2.output,hb2.size,fun i hi _=>hb2.block i hi⟩ (Ext.refl fb w2)).set 0 _).set 1 _
  have HF:Hid (LkI wJ fb mb ob sb #[.string m0,.slice ia il ic,.slice ga gl gc,.slice pa pl pc,.slice ba bn bc] (.slice oa on oc) so (stpF c (0,-1)) ((w2.setCell ⟨fb,0,none⟩ (.int .i64 (ftC c).1)).setCell ⟨fb,1,none⟩ (.int .i64 (ftC c).2))):=by
   have e:stpF c (0,-1)=ftC c:=by unfold stpF;rw[if_pos rfl]
   rw[e]
   exact HL.out.ext hx (by have:=zu 1 (.int .i64 (ftC c).2) (zu 0 (.int .i64 (ftC c).1) hk2);simpa using this)
  have HX:=zh hx
  clear hk2 hb2 HJ hx e0 e1 e2 e3 e4 o0 s0 hml hol hsl k0 k1 g0 g1 hgl hfl
  generalize (ftC c).1=c1 at *
  generalize (ftC c).2=c2 at *
  go_wp2_with fail
  go_end0
  exact⟨rfl,HF.out,HX.out⟩
 ·have HF:Hid (stpF c (f1,f2)=(f1,f2)):=by
   show _=_
   unfold stpF
   rw[if_neg (fun e=>hf (by simpa using e))]
  have hd:(decide (f1=0) && decide (f2=-1))=false:=by
   rw[Bool.and_eq_false_iff]
   by_cases a:f1=0
   ·exact Or.inr (by simp;exact fun q=>hf ⟨a,q⟩)
   ·exact Or.inl (by simp[a])
  have hd2:((f1 == 0) && (f2 == -1))=false:=by
   rw[Bool.and_eq_false_iff]
   by_cases a:f1=0
   ·exact Or.inr (by simp;exact fun q=>hf ⟨a,q⟩)
   ·exact Or.inl (by simp[a])
  clear h hJ HJ hfine
  go_enter Tryz.func132,Tryz.ntmps132
  go_wp2_with fail
  all_goals
   go_end0
   exact⟨rfl,by rw[HF.out];exact HL.out,Ext.refl _ _⟩
end Go.Proofs.YthnoedjbhbkdeaaGreatDoor
namespace Go.Proofs.YthnoedjbhbkdeaaGreatDoor
open Go.RowKit Go.Sort
open Tp (X)
def allX:List X->List X
 | []=>[]
 | ⟨code,pos,n,md,nm,op,le,ri,ar⟩ :: xs=>⟨code,pos,n,md,nm,op,le,ri,ar⟩ :: (allX le++allX ri++allX ar++allX xs)
theorem jK (x:X) (l:List X):allX (x :: l)=x :: (allX x.left++allX x.right++allX x.args++allX l):=by
 obtain⟨⟩:=x
 rw[allX]
theorem kW:allX []=[]:=by rw[allX]
theorem RepL.extD {b:Nat}{w w':World}{D:Nat->Prop}{l:List X}{vs:List Value}(h:RepL w D l vs) (k:Ext b w w') (hD:∀ i,D i->i≠b):RepL w' D l vs :=
 RepL.mono (fun i hi hl=>⟨k.block i hl (hD i hi),hi⟩) (SizeOf.sizeOf l) l vs zn h
structure Vis {σ:Type}(I:σ->World->Prop) (stp:X->σ->σ) (b fid:Nat) (p1 p2 p3 p4:Nat):Prop where
 on:∀ {s W W'},I s W->Below W.heap.size W W'->I s W'
 does:∀ {s W D x} {y:X},I s W->RepL W D [y] [.pointer (some ⟨x,0,none⟩)]->Tp.WX [y]->Calls Tryz.prog fid #[.pointer (some ⟨x,0,none⟩),.pointer (some ⟨p1,0,none⟩),.pointer (some ⟨p2,0,none⟩),.pointer (some ⟨p3,0,none⟩),.pointer (some ⟨p4,0,none⟩)] W fun e w'=>e=.returned (.tuple #[])/\I (stp y s) w'/\Ext b W w'
structure Bx (W:World) (fid t1 t2 b p1 p2 p3 p4:Nat):Prop where
 c1:W.cell? ⟨t1,0,none⟩=some (.func (.func fid) #[] #[.pointer (some ⟨p1,0,none⟩),.pointer (some ⟨p2,0,none⟩),.pointer (some ⟨p3,0,none⟩),.pointer (some ⟨p4,0,none⟩)])
 c2:W.cell? ⟨t2,0,none⟩=some (.func (.func 125) #[] #[.pointer (some ⟨t1,0,none⟩),.pointer (some ⟨t2,0,none⟩)])
 n1:t1≠b
 n2:t2≠b
theorem yL {b t o:Nat}{w w':World}{v:Value}(h:w.cell? ⟨t,o,none⟩=some v) (k:Ext b w w') (hn:t≠b):w'.cell? ⟨t,o,none⟩=some v:=by
 rw[<-h]
 unfold World.cell?
 rw[k.block t (zi h) hn]
theorem Bx.ext {W W':World}{fid t1 t2 b p1 p2 p3 p4:Nat}(h:Bx W fid t1 t2 b p1 p2 p3 p4) (k:Ext b W W'):Bx W' fid t1 t2 b p1 p2 p3 p4:=⟨yL h.c1 k h.n1,yL h.c2 k h.n2,h.n1,h.n2⟩
theorem Bx.on {W W':World}{fid t1 t2 b p1 p2 p3 p4:Nat}(h:Bx W fid t1 t2 b p1 p2 p3 p4) (k:Below W.heap.size W W'):Bx W' fid t1 t2 b p1 p2 p3 p4:=⟨(k.cell (p:=⟨t1,0,none⟩) (zi h.c1)).trans h.c1,(k.cell (p:=⟨t2,0,none⟩) (zi h.c2)).trans h.c2,h.n1,h.n2⟩
theorem Ext.of_below {b:Nat}{w w':World}(k:Below w.heap.size w w'):Ext b w w':=⟨k.os,k.tape,k.output,k.size,fun i hi _=>k.block i hi⟩
theorem expr_nil (W:World) (t1 t2:Nat):Calls Tryz.prog 125 #[.pointer none,.pointer (some ⟨t1,0,none⟩),.pointer (some ⟨t2,0,none⟩)] W fun e w'=>e=.returned (.tuple #[])/\w'=W:=by
 go_enter Tryz.func125,Tryz.ntmps125
 go_wp2_with fail
 (try simp only [Exit.inBlock,Exit.then])
 refine bodyPost_ret (results_none rfl _ _ _) rfl ?_
 exact⟨rfl,rfl⟩
def ExC {σ:Type}(I:σ->World->Prop) (stp:X->σ->σ) (b fid p1 p2 p3 p4 t1 t2:Nat) (N:Nat):Prop:=∀(y:X),SizeOf.sizeOf y<=N->Tp.WX [y]->∀(W:World) (D:Nat->Prop) (x:Nat) (s:σ),I s W->RepL W D [y] [.pointer (some ⟨x,0,none⟩)]->(∀ i,D i->i≠b)->Bx W fid t1 t2 b p1 p2 p3 p4 ->
 Calls Tryz.prog 125 #[.pointer (some ⟨x,0,none⟩),.pointer (some ⟨t1,0,none⟩),.pointer (some ⟨t2,0,none⟩)] W fun e w'=>e=.returned (.tuple #[])/\I ((allX [y]).foldl (fun s y=>stp y s) s) w'/\Ext b W w'
theorem ex_opt {σ:Type}{I:σ->World->Prop}{stp:X->σ->σ}{b fid p1 p2 p3 p4 t1 t2 N:Nat}(hE:ExC I stp b fid p1 p2 p3 p4 t1 t2 N) {l:List X}(hl:l=[]\/∃ z,l=[z]/\SizeOf.sizeOf z<=N/\Tp.WX [z]) {W:World}{D:Nat->Prop}{ls:List Value}{s:σ}(hI:I s W) (hr:RepL W D l ls) (hD:∀ i,D i->i≠b) (hB:Bx W fid t1 t2 b p1 p2 p3 p4) :
  Calls Tryz.prog 125 #[ls.headD (.pointer none),.pointer (some ⟨t1,0,none⟩),.pointer (some ⟨t2,0,none⟩)] W fun e w'=>e=.returned (.tuple #[])/\I ((allX l).foldl (fun s y=>stp y s) s) w'/\Ext b W w':=by
 rcases hl with rfl|⟨z,rfl,hz,hw⟩
 ·have:ls=[]:=List.eq_nil_of_length_eq_zero (by have:=RepL.len _ _ hr;simpa using this)
  subst this
  refine(expr_nil W t1 t2).mono ?_
  rintro e w' ⟨rfl,rfl⟩
  exact⟨rfl,by rw[kW];exact hI,Ext.refl _ _⟩
 ·obtain⟨c,rfl⟩:=hr.single
  exact hE z hz hw W D c s hI hr hD hB
theorem allX_app (l m:List X):allX (l++m)=allX l++allX m:=by
 induction l with
 | nil=>rw[kW];rfl
 | cons x l ih=>rw[List.cons_append,jK,jK,ih];simp
theorem allX_take {l:List X}{i:Nat}(h:i<l.length):allX (l.take (i+1))=allX (l.take i)++allX [l[i]]:=by rw[List.take_succ_eq_append_getElem h,allX_app]
theorem expr_step {σ:Type}{I:σ->World->Prop}{stp:X->σ->σ}{b p1 p2 p3 p4 t1 t2 N:Nat}(hV:Vis I stp b 132 p1 p2 p3 p4) (hE:ExC I stp b 132 p1 p2 p3 p4 t1 t2 N) {y:X}(hle:y.left=[]\/∃ z,y.left=[z]/\SizeOf.sizeOf z<=N/\Tp.WX [z]) (hri:y.right=[]\/∃ z,y.right=[z]/\SizeOf.sizeOf z<=N/\Tp.WX [z]) (har:∀ i (h:i<y.args.length),SizeOf.sizeOf y.args[i]<=N/\Tp.WX [y.args[i]]) (hw:Tp.WX [y])
  {W:World} {D:Nat->Prop} {x:Nat} {s:σ} (hI:I s W) (hr:RepL W D [y] [.pointer (some ⟨x,0,none⟩)]) (hD:∀ i,D i->i≠b) (hB:Bx W 132 t1 t2 b p1 p2 p3 p4) :
  Calls Tryz.prog 125 #[.pointer (some ⟨x,0,none⟩),.pointer (some ⟨t1,0,none⟩),.pointer (some ⟨t2,0,none⟩)] W fun e w'=>e=.returned (.tuple #[])/\I ((allX [y]).foldl (fun s y=>stp y s) s) w'/\Ext b W w':=by
 obtain⟨code,pos,n,md,nm,op,le,ri,ar⟩:=y
 obtain⟨av,ls,rs,gs,hbW,hleW,hriW,harW,havW⟩:=hr.unit
 simp only at hle hri har
 have hxD:x≠b:=by
  have hr':=hr
  rw[RepL]at hr'
  obtain⟨b',_,_,_,_,_,h1,h2,_⟩:=hr'
  cases h1
  exact hD _ h2
 have HXB:Hid (x≠b):=hxD
 have HF:=zh (hV.does hI hr hw)
 have HV:=zh hV
 have HE:=zh hE
 have HD:=zh hD
 have HB:=zh hB
 have HLE:=zh hle
 have HRI:=zh hri
 have HAR:=zh har
 have HLW:=zh hleW
 have HRW:=zh hriW
 have HAW:=zh harW
 have HVW:=zh havW
 have HBW:=zh hbW
 obtain⟨la,hla⟩:=hleW.headP
 obtain⟨ra,hra⟩:=hriW.headP
 have HLA:=zh hla
 have HRA:=zh hra
 have b1:=hB.c1
 have hl1:=zi b1
 obtain⟨s1,hs1⟩:∃ s1,s1=stp ⟨code,pos,n,md,nm,op,le,ri,ar⟩ s:=⟨_,rfl⟩
 rw[<-hs1]at HF
 have HS1:=zh hs1
 clear hI hr hV hE hD hB hle hri har hw hleW hriW harW havW hbW hla hra hs1 hxD
 go_enter Tryz.func125,Tryz.ntmps125
 go_wp2_with fail
 refine HF.out.mono ?_
 rintro e w1 ⟨rfl,hI1,hx1⟩
 have hBw1:=HB.out.ext hx1
 have hbw1:w1.heap[x]?=some (.cells #[.int .i64 (code:Int),.int .i64 (pos:Int),.int .i64 (n:Int),.string (bs md),.string (bs nm),.string (bs op),.pointer la,.pointer ra,av] 111 (0,0)):=by
  have:=(hx1.block x (zc HBW.out) HXB.out).trans HBW.out
  rw[HLA.out,HRA.out]at this
  exact this
 have hl1w:=HLW.out.extD hx1 HD.out
 have hr1w:=HRW.out.extD hx1 HD.out
 have ha1w:=HAW.out.extD hx1 HD.out
 have HHL:Hid (RepL w1 D le ls):=hl1w
 have HHR:Hid (RepL w1 D ri rs):=hr1w
 have HHA:Hid (RepL w1 D ar gs):=ha1w
 have HI1:=zh hI1
 have HX1:=zh hx1
 clear hl1w hr1w ha1w hI1 HF
 have HC2:Hid (w1.drew.cell? ⟨t2,0,none⟩=some (.func (.func 125) #[] #[.pointer (some ⟨t1,0,none⟩),.pointer (some ⟨t2,0,none⟩)])/\w1.drew.cell? ⟨x,6,none⟩=some (.pointer la)):=⟨hBw1.c2,za hbw1⟩
 have HL2:Hid (Calls Tryz.prog 125 #[.pointer la,.pointer (some ⟨t1,0,none⟩),.pointer (some ⟨t2,0,none⟩)] w1.drew fun e w'=>e=.returned (.tuple #[])/\I ((allX le).foldl (fun s y=>stp y s) s1) w'/\Ext b w1 w'):=by
  have:=ex_opt (W:=w1.drew) HE.out HLE.out (HV.out.on HI1.out ((Below.refl _ _).drew)) (HHL.out.step' ((Below.refl _ _).drew)) HD.out (hBw1.on ((Below.refl _ _).drew))
  rw[HLA.out]at this
  exact this.mono fun e w' q=>⟨q.1,q.2.1,(Ext.of_below ((Below.refl _ _).drew)).trans q.2.2⟩
 have HN2:Hid (∀ w',Ext b w1 w'->w'.cell? ⟨t2,0,none⟩=some (.func (.func 125) #[] #[.pointer (some ⟨t1,0,none⟩),.pointer (some ⟨t2,0,none⟩)])/\w'.cell? ⟨x,6,none⟩=some (.pointer la)):=fun w' k=>⟨yL hBw1.c2 k hBw1.n2,yL (za hbw1) k HXB.out⟩
 have hlx:=zc hbw1
 have HBB2:=zh hBw1
 have HBK2:=zh hbw1
 clear hBw1 hbw1
 go_upto_region 2 with fail
 go_cut [] from 11 (fun wq=>Hid (I ((allX le).foldl (fun s y=>stp y s) s1) wq)/\Hid (Ext b w1 wq))
 case first =>
  go_region_held3 (fun w'=>w'.cell? ⟨t2,0,none⟩=some (.func (.func 125) #[] #[.pointer (some ⟨t1,0,none⟩),.pointer (some ⟨t2,0,none⟩)])/\w'.cell? ⟨x,6,none⟩=some (.pointer la)) (with_reducible (first|exact HC9.out|exact HC2.out|fail "KEEP")) (first|(go_at_call 125;refine HL2.out.mono ?_;rintro e w9 ⟨rfl,hI9,hx9⟩;have HC9:Hid (w9.cell? ⟨t2,0,none⟩=some (.func (.func 125) #[] #[.pointer (some ⟨t1,0,none⟩),.pointer (some ⟨t2,0,none⟩)])/\w9.cell? ⟨x,6,none⟩=some (.pointer la)):=HN2.out w9 hx9;have HI9:=zh hI9;have HX9:=zh hx9;clear hI9 hx9))
  go_wp2_with fail
  go_meet
  case rel=>exact⟨HI9,HX9⟩
 case rest =>
  obtain⟨HI2,HX2⟩:=hcut
  rename World=>w2
  have hBw2:=HBB2.out.ext HX2.out
  have hbw2:=(HX2.out.block x (zc HBK2.out) HXB.out).trans HBK2.out
  have HHR2:Hid (RepL w2 D ri rs):=HHR.out.extD HX2.out HD.out
  have HHA2:Hid (RepL w2 D ar gs):=HHA.out.extD HX2.out HD.out
  clear HHL HHR HHA HC2 HL2 HN2 HLE HBB2 HBK2 hlx
  have HC3:Hid (w2.drew.cell? ⟨t2,0,none⟩=some (.func (.func 125) #[] #[.pointer (some ⟨t1,0,none⟩),.pointer (some ⟨t2,0,none⟩)])/\w2.drew.cell? ⟨x,7,none⟩=some (.pointer ra)):=⟨hBw2.c2,za hbw2⟩
  have HL3:Hid (Calls Tryz.prog 125 #[.pointer ra,.pointer (some ⟨t1,0,none⟩),.pointer (some ⟨t2,0,none⟩)] w2.drew fun e w'=>e=.returned (.tuple #[])/\I ((allX ri).foldl (fun s y=>stp y s) ((allX le).foldl (fun s y=>stp y s) s1)) w'/\Ext b w2 w'):=by
    have:=ex_opt (W:=w2.drew) HE.out HRI.out (HV.out.on HI2.out ((Below.refl _ _).drew)) (HHR2.out.step' ((Below.refl _ _).drew)) HD.out (hBw2.on ((Below.refl _ _).drew))
    rw[HRA.out]at this
    exact this.mono fun e w' q=>⟨q.1,q.2.1,(Ext.of_below ((Below.refl _ _).drew)).trans q.2.2⟩
  have HN3:Hid (∀ w',Ext b w2 w'->w'.cell? ⟨t2,0,none⟩=some (.func (.func 125) #[] #[.pointer (some ⟨t1,0,none⟩),.pointer (some ⟨t2,0,none⟩)])/\w'.cell? ⟨x,7,none⟩=some (.pointer ra)):=fun w' k=>⟨yL hBw2.c2 k hBw2.n2,yL (za hbw2) k HXB.out⟩
  have hlx:=zc hbw2
  have HBB3:=zh hBw2
  have HBK3:=zh hbw2
  clear hBw2 hbw2
  go_upto_region 3 with fail
  go_cut [] from 17 (fun wq=>Hid (I ((allX ri).foldl (fun s y=>stp y s) ((allX le).foldl (fun s y=>stp y s) s1)) wq)/\Hid (Ext b w2 wq))
  case first =>
   go_region_held3 (fun w'=>w'.cell? ⟨t2,0,none⟩=some (.func (.func 125) #[] #[.pointer (some ⟨t1,0,none⟩),.pointer (some ⟨t2,0,none⟩)])/\w'.cell? ⟨x,7,none⟩=some (.pointer ra)) (with_reducible (first|exact HC9.out|exact HC3.out|fail "KEEP")) (first|(go_at_call 125;refine HL3.out.mono ?_;rintro e w9 ⟨rfl,hI9,hx9⟩;have HC9:Hid (w9.cell? ⟨t2,0,none⟩=some (.func (.func 125) #[] #[.pointer (some ⟨t1,0,none⟩),.pointer (some ⟨t2,0,none⟩)])/\w9.cell? ⟨x,7,none⟩=some (.pointer ra)):=HN3.out w9 hx9;have HI9:=zh hI9;have HX9:=zh hx9;clear hI9 hx9))
   go_wp2_with fail
   go_meet
   case rel=>exact⟨HI9,HX9⟩
  case rest =>
   obtain⟨HI3,HX3⟩:=hcut
   rename World=>w3
   have hBw3:=HBB3.out.ext HX3.out
   have hbw3:=(HX3.out.block x (zc HBK3.out) HXB.out).trans HBK3.out
   have HHA3:Hid (RepL w3 D ar gs):=HHA2.out.extD HX3.out HD.out
   have hgl:=RepL.len _ _ HAW.out
   have hav3:ArgsAt w3 D av gs:=by
    have k:=(HX1.out.trans HX2.out).trans HX3.out
    rcases HVW.out with q|⟨g,cap,cur,q1,q2,q3,q4⟩
    ·exact Or.inl q
    ·exact Or.inr ⟨g,cap,cur,q1,q2,(k.block g (zc q3) (HD.out g q2)).trans q3,q4⟩
   obtain⟨hgn,aa,ac,rfl,hac⟩:=hav3.shape
   rw[hgl]at hgn hbw3
   have HAC:Hid (∀ i (h:i<ar.length),∃ g c:Nat,aa=some ⟨g,0,none⟩/\g≠b/\w3.cell? ⟨g,i,none⟩=some (.pointer (some ⟨c,0,none⟩))/\RepL w3 D [ar[i]] [.pointer (some ⟨c,0,none⟩)]):=fun i h=>by
    obtain⟨c,z1,z2⟩:=RepL.nth _ _ HHA3.out i h
    rcases hav3 with⟨q1,q2⟩|⟨g,cap,cur,q1,q2,q3,q4⟩
    ·rw[q1]at z1;simp at z1
    ·obtain⟨g',e1,e2,e3⟩:=hac i _ z1
     have:g'=g:=by cases q1;cases e1;rfl
     subst this
     exact⟨g',c,e1,HD.out g' q2,e3,z2⟩
   have y8:w3.cell? ⟨x,8,none⟩=some (.slice aa ar.length ac):=za hbw3
   have hlx:=zc hbw3
   have hn':(ar.length:Int)<=9223372036854775807:=by omega
   have HBB4:=zh hBw3
   obtain⟨s3,hs3⟩:∃ s3,s3=(allX ri).foldl (fun s y=>stp y s) ((allX le).foldl (fun s y=>stp y s) s1):=⟨_,rfl⟩
   have HI3':Hid (I s3 w3):=by rw[hs3];exact HI3.out
   have HS3:=zh hs3
   have HXX:Hid (Ext b W w3):=(HX1.out.trans HX2.out).trans HX3.out
   clear HI3 hs3 hac hav3 HC3 HL3 HN3 HBB3 HBK3 HHA2 HHR2 hBw3 hbw3 HVW HHA3
   go_wp2_with fail
   clear y8 hlx
   go_loopg [28] ar.length (fun k vi wr=>∃ i:Nat,i<=ar.length/\k=ar.length - i/\vi=.int .i64 (i:Int)/\Hid (I ((allX (ar.take i)).foldl (fun s y=>stp y s) s3) wr)/\Hid (Ext b w3 wr))
   case atStart=>exact⟨0,by omega,by omega,rfl,by rw[List.take_zero,kW];exact HI3',Ext.refl _ _⟩
   case round =>
    obtain⟨i,hid,hk,rfl,HII,HXW⟩:=hrel
    by_cases hlt:i<ar.length
    ·have hlt':(i:Int)<(ar.length:Int):=by omega
     obtain⟨g,c,rfl,hgb,hgc,hrc⟩:=HAC.out i hlt
     have x0:wr.cell? ⟨g,i,none⟩=some (.pointer (some ⟨c,0,none⟩)):=yL hgc HXW.out hgb
     have hgw:=zi x0
     have hBr:=HBB4.out.ext HXW.out
     have c2:=hBr.c2
     have hl2:=zi c2
     obtain⟨z1,z2⟩:=HAR.out i hlt
     have HC:=zh (HE.out ar[i] z1 z2 wr D c _ HII.out (hrc.extD HXW.out HD.out) HD.out hBr)
     clear hgc hrc hBr z1 z2
     go_wp2_with fail
     refine HC.out.mono ?_
     rintro e w5 ⟨rfl,hI5,hx5⟩
     have HI5:Hid (I ((allX (ar.take (i+1))).foldl (fun s y=>stp y s) s3) w5):=by
      rw[allX_take hlt,List.foldl_append]
      exact hI5
     have HX5:=zh (HXW.out.trans hx5)
     clear hI5 hx5 HC x0 hgw c2 hl2
     go_wp2_with fail
     go_roundg (ar.length - (i+1))
     case measure=>omega
     case rel=>exact⟨i+1,by omega,rfl,by go_num,HI5,HX5⟩
    ·have hlt':¬(i:Int)<(ar.length:Int):=by omega
     have he:i=ar.length:=by omega
     have HIF:Hid (I ((allX [⟨code,pos,n,md,nm,op,le,ri,ar⟩]).foldl (fun s y=>stp y s) s) wr):=by
      have:=HII.out
      rw[he,List.take_length]at this
      rw[jK,kW,List.append_nil,List.foldl_cons,<-HS1.out,List.foldl_append,List.foldl_append,<-HS3.out]
      exact this
     have HXF:=zh (HXX.out.trans HXW.out)
     go_wp2_with fail
     go_end0
     exact⟨rfl,HIF.out,HXF.out⟩
theorem wxn:∀(l:List X),Tp.WX l->∀ i (h:i<l.length),Tp.WX [l[i]]:=by
 intro l
 induction l with
 | nil=>intro _ i h;simp at h
 | cons x l ih =>
  intro hw i h
  obtain⟨code,pos,n,md,nm,op,le,ri,ar⟩:=x
  rw[Tp.WX]at hw
  cases i with
  | zero =>
   show Tp.WX [⟨code,pos,n,md,nm,op,le,ri,ar⟩]
   rw[Tp.WX]
   exact⟨hw.1,by rw[Tp.WX];trivial⟩
  | succ i=>exact ih hw.2 i (by simpa using h)
theorem jW {l:List X}(h:l.length=1) (hw:Tp.WX l):∃ z,l=[z]/\Tp.WX [z]:=by
 obtain⟨z,rfl⟩:=Tp.len1 h
 exact⟨z,rfl,hw⟩
theorem wx_parts {y:X}(h:Tp.WX [y]):(y.left=[]\/∃ z,y.left=[z]/\Tp.WX [z])/\(y.right=[]\/∃ z,y.right=[z]/\Tp.WX [z])/\∀ i (h:i<y.args.length),Tp.WX [y.args[i]]:=by
 obtain⟨code,pos,n,md,nm,op,le,ri,ar⟩:=y
 rw[Tp.WX]at h
 simp only
 rcases h.1 with⟨rfl,h1,rfl,rfl,rfl,rfl,rfl,rfl⟩|⟨rfl,rfl,h2,rfl,rfl,rfl,rfl⟩|⟨rfl,rfl,h2,rfl,h3,h4,rfl,rfl⟩|⟨rfl,rfl,rfl,rfl,h2,h3,h4,rfl,rfl⟩|⟨rfl,rfl,rfl,rfl,h2,h3,h4,h5,h6,rfl⟩|⟨rfl,rfl,h2,rfl,rfl,rfl,h3⟩
 ·exact⟨Or.inl rfl,Or.inl rfl,fun i h=>by simp at h⟩
 ·exact⟨Or.inl rfl,Or.inl rfl,fun i h=>by simp at h⟩
 ·exact⟨Or.inr (jW h4 h3),Or.inl rfl,fun i h=>by simp at h⟩
 ·exact⟨Or.inr (jW h4 h3),Or.inl rfl,fun i h=>by simp at h⟩
 ·exact⟨Or.inr (jW h4 h3),Or.inr (jW h6 h5),fun i h=>by simp at h⟩
 ·exact⟨Or.inl rfl,Or.inl rfl,fun i h=>wxn ar h3 i h⟩
theorem szN {y z:X}{l:List X}{N:Nat}(h:SizeOf.sizeOf y<=N+1) (hl:l=[z]) (hy:SizeOf.sizeOf l<SizeOf.sizeOf y):SizeOf.sizeOf z<=N:=by
 subst hl
 simp only [List.cons.sizeOf_spec]at hy
 omega
theorem ex_all {σ:Type}{I:σ->World->Prop}{stp:X->σ->σ}{b p1 p2 p3 p4 t1 t2:Nat}(hV:Vis I stp b 132 p1 p2 p3 p4):∀ N,ExC I stp b 132 p1 p2 p3 p4 t1 t2 N:=by
 intro N
 induction N with
 | zero=>intro y hy;cases y;simp only [X.mk.sizeOf_spec]at hy;omega
 | succ N ih =>
  intro y hy hw W D x s hI hr hD hB
  obtain⟨q1,q2,q3⟩:=wx_parts hw
  have hs:SizeOf.sizeOf y.left<SizeOf.sizeOf y/\SizeOf.sizeOf y.right<SizeOf.sizeOf y/\SizeOf.sizeOf y.args<SizeOf.sizeOf y:=by
   cases y
   simp only [X.mk.sizeOf_spec]
   omega
  refine expr_step hV ih (q1.imp id fun ⟨z,e,q⟩=>⟨z,e,szN hy e hs.1,q⟩) (q2.imp id fun ⟨z,e,q⟩=>⟨z,e,szN hy e hs.2.1,q⟩) (fun i h=>⟨?_,q3 i h⟩) hw hI hr hD hB
  have:SizeOf.sizeOf y.args[i]<SizeOf.sizeOf y.args:=List.sizeOf_lt_of_mem (List.getElem_mem h)
  omega
theorem optW {v:List X}(h:Tp.ev v):∃ z,v=[z]/\Tp.WX [z]:=jW h.2.1 h.1
theorem walk_nil (W:World) (a:Option Addr) (c:Nat) (fv:Fn) (fa cap:Array Value):Calls Tryz.prog 67 #[.slice a 0 c,.func fv fa cap] W fun e w'=>e=.returned (.tuple #[])/\Below W.heap.size W w':=by
 have hmf:=zm
 go_enter Tryz.func67,Tryz.ntmps67
 have HB:Hid (Below W.heap.size W ((W.alloc (.cells #[.func fv fa cap] 112)).alloc (.cells #[(.func (.func 125) #[] #[.pointer (some ⟨W.heap.size,0,none⟩),.pointer (some ⟨W.heap.size+1,0,none⟩)])] 112))):=(zb _ _).alloc (by simp) _
 go_wp2_with fail
 refine wp_loop_rounds 1 ?_
 rw[rounds_succ]
 go_wp2_with fail
 go_end0
 exact⟨rfl,HB.out⟩
theorem walk_one {σ:Type}{I:σ->World->Prop}{stp:X->σ->σ}{b p1 p2 p3 p4:Nat}(hV:Vis I stp b 132 p1 p2 p3 p4) {ix vl:List X}(hix:ix=[]\/∃ z,ix=[z]/\Tp.WX [z]) (hvl:vl=[]\/∃ z,vl=[z]/\Tp.WX [z]) {W:World}{D:Nat->Prop}{ls vs:List Value}{g c:Nat}{s:σ}(hI:I s W) (hrx:RepL W D ix ls) (hrv:RepL W D vl vs) (hD:∀ i,D i->i≠b) (hb:b<W.heap.size) {code pos:Int}{nm:ByteArray}{ia va:Option Addr}(hia:ls.headD (.pointer none)=.pointer ia) (hva:vs.headD (.pointer none)=.pointer va)
  (hg:W.heap[g]?=some (.cells #[.int .i64 code,.int .i64 pos,.string nm,.pointer ia,.pointer va,.slice none 0 0,.slice none 0 0] 96 (0,0))) (hgb:g≠b) :
  Calls Tryz.prog 67 #[.slice (some ⟨g,0,none⟩) 1 c,.func (.func 132) #[] #[.pointer (some ⟨p1,0,none⟩),.pointer (some ⟨p2,0,none⟩),.pointer (some ⟨p3,0,none⟩),.pointer (some ⟨p4,0,none⟩)]] W fun e w'=>e=.returned (.tuple #[])/\I ((allX ix++allX vl).foldl (fun s y=>stp y s) s) w'/\Ext b W w':=by
 have hmf:=zm
 obtain⟨W1,hW1⟩:∃ W1,W1=(W.alloc (.cells #[.func (.func 132) #[] #[.pointer (some ⟨p1,0,none⟩),.pointer (some ⟨p2,0,none⟩),.pointer (some ⟨p3,0,none⟩),.pointer (some ⟨p4,0,none⟩)]] 112)).alloc (.cells #[(.func (.func 125) #[] #[.pointer (some ⟨W.heap.size,0,none⟩),.pointer (some ⟨W.heap.size+1,0,none⟩)])] 112):=⟨_,rfl⟩
 have hbW:Below W.heap.size W W1:=by rw[hW1];exact(zb _ _).alloc (by simp) _
 obtain⟨t1,ht1⟩:∃ t1,t1=W.heap.size:=⟨_,rfl⟩
 obtain⟨t2,ht2⟩:∃ t2,t2=W.heap.size+1:=⟨_,rfl⟩
 have hBx:Bx W1 132 t1 t2 b p1 p2 p3 p4:=by
  rw[ht1,ht2,hW1]
  refine⟨?_,?_,by omega,by omega⟩
  ·exact zT (za (zl W _)) _
  ·simp
 have hI1:=hV.on hI hbW
 have hx1:=hrx.step' hbW
 have hv1:=hrv.step' hbW
 have hg1:=(hbW.block g (zc hg)).trans hg
 have x0:W1.cell? ⟨g,0,none⟩=some (.int .i64 code):=za hg1
 have x1:W1.cell? ⟨g,1,none⟩=some (.int .i64 pos):=za hg1
 have x2:W1.cell? ⟨g,2,none⟩=some (.string nm):=za hg1
 have x3:W1.cell? ⟨g,3,none⟩=some (.pointer ia):=za hg1
 have x4:W1.cell? ⟨g,4,none⟩=some (.pointer va):=za hg1
 have x5:W1.cell? ⟨g,5,none⟩=some (.slice none 0 0):=za hg1
 have x6:W1.cell? ⟨g,6,none⟩=some (.slice none 0 0):=za hg1
 have hgl:=zc hg1
 have c2:=hBx.c2
 have hl2:=zi c2
 have HV:=zh hV
 have HBW:=zh hbW
 have HBX:=zh hBx
 have HI1:=zh hI1
 have HRX:=zh hx1
 have HRV:=zh hv1
 have HD:=zh hD
 have HIX:Hid (ix=[]\/∃ z,ix=[z]/\SizeOf.sizeOf z<=SizeOf.sizeOf ix+SizeOf.sizeOf vl/\Tp.WX [z]):=hix.imp id fun ⟨z,e,q⟩=>⟨z,e,by subst e;simp only [List.cons.sizeOf_spec];omega,q⟩
 have HVL:Hid (vl=[]\/∃ z,vl=[z]/\SizeOf.sizeOf z<=SizeOf.sizeOf ix+SizeOf.sizeOf vl/\Tp.WX [z]):=hvl.imp id fun ⟨z,e,q⟩=>⟨z,e,by subst e;simp only [List.cons.sizeOf_spec];omega,q⟩
 have HIA:=zh hia
 have HVA:=zh hva
 have HGB:=zh hgb
 have hbl1:b<W1.heap.size:=Nat.lt_of_lt_of_le hb hbW.size
 have HW1:=zh hW1
 clear hbW hBx hI1 hx1 hv1 hg1 hI hrx hrv hD hix hvl hia hva hg hgb hV hW1 hb
 go_enter Tryz.func67,Tryz.ntmps67
 go_upto_region 3 with fail
 rw[<-HW1.out]
 rw[<-ht1]
 rw[show t1+1=t2 by omega]
 clear ht1 ht2 HW1
 go_wp2_with fail
 go_loopg [10] 1 (fun k vi wr=>∃ i:Nat,i<=1/\k=1 - i/\vi=.int .i64 (i:Int)/\((i=0/\wr=W1)\/(i=1/\Hid (I ((allX ix++allX vl).foldl (fun s y=>stp y s) s) wr)/\Hid (Ext b W1 wr))))
 case atStart=>exact⟨0,by omega,by omega,rfl,Or.inl ⟨rfl,rfl⟩⟩
 case round =>
  obtain⟨i,hid,hk,rfl,hcs⟩:=hrel
  rcases hcs with⟨rfl,hwr⟩|⟨rfl,HIF,HXF⟩
  ·subst hwr
   have hbl1:b<wr.heap.size:=hbl1
   go_upto_region 5 with fail
   go_cut [6] from 14 to 30 (fun v6 wq=>∃ b2:Nat,v6=.pointer (some ⟨b2,0,none⟩)/\Hid (wq.heap[b2]?=some (.cells #[.int .i64 code,.int .i64 pos,.string nm,.pointer ia,.pointer va,.slice none 0 0,.slice none 0 0] 96 (0,0)))/\b2≠b/\Hid (Below wr.heap.size wr wq))
   case first =>
    go_wp2_with fail
    go_meet
    case rel=>exact⟨wr.heap.size,rfl,zl wr _,by omega,zb _ _⟩
   case rest =>
    obtain⟨b2,rfl,HC2,hb2,HBq⟩:=hcut
    rename World=>wq
    have hBq:=HBX.out.on HBq.out
    have HE:=ex_all (t1:=t1) (t2:=t2) HV.out (SizeOf.sizeOf ix+SizeOf.sizeOf vl)
    have HCX:Hid (Calls Tryz.prog 125 #[.pointer ia,.pointer (some ⟨t1,0,none⟩),.pointer (some ⟨t2,0,none⟩)] wq fun e w'=>e=.returned (.tuple #[])/\I ((allX ix).foldl (fun s y=>stp y s) s) w'/\Ext b wq w'):=by
     have:=ex_opt HE HIX.out (HV.out.on HI1.out HBq.out) (HRX.out.step' HBq.out) HD.out hBq
     rw[HIA.out]at this
     exact this
    have HRV2:Hid (RepL wq D vl vs):=HRV.out.step' HBq.out
    have HBq2:=zh hBq
    have HEX:=zh HE
    clear x0 x1 x2 x3 x4 x5 x6 hgl c2 hl2 HE HIX HRX HRV
    have y3:wq.cell? ⟨b2,3,none⟩=some (.pointer ia):=za HC2.out
    have hl2:=zc HC2.out
    have c2:=hBq.c2
    have hlt2:=zi c2
    clear hBq
    go_wp2_with fail
    refine HCX.out.mono ?_
    rintro e w3 ⟨rfl,hI3,hx3⟩
    have HCV:Hid (Calls Tryz.prog 125 #[.pointer va,.pointer (some ⟨t1,0,none⟩),.pointer (some ⟨t2,0,none⟩)] w3 fun e w'=>e=.returned (.tuple #[])/\I ((allX vl).foldl (fun s y=>stp y s) ((allX ix).foldl (fun s y=>stp y s) s)) w'/\Ext b w3 w'):=by
     have:=ex_opt HEX.out HVL.out hI3 (HRV2.out.extD hx3 HD.out) HD.out (HBq2.out.ext hx3)
     rw[HVA.out]at this
     exact this
    have hc3:=(hx3.block b2 (zc HC2.out) hb2).trans HC2.out
    have HC3:=zh hc3
    have HX3:=zh hx3
    have HB3:=zh (HBq2.out.ext hx3)
    clear hI3 HCX y3 hl2 c2 hlt2
    have y4:w3.cell? ⟨b2,4,none⟩=some (.pointer va):=za hc3
    have hl2:=zc hc3
    have c2:=HB3.out.c2
    have hlt2:=zi c2
    clear hc3 hx3
    go_wp2_with fail
    refine HCV.out.mono ?_
    rintro e w4 ⟨rfl,hI4,hx4⟩
    have hc4:=(hx4.block b2 (zc HC3.out) hb2).trans HC3.out
    have HC4:=zh hc4
    have HX4:=zh (HX3.out.trans hx4)
    have HB4:=zh (HB3.out.ext hx4)
    have HI4:=zh hI4
    have HWN:=zh (walk_nil w4 none 0 (.func 132) #[] #[.pointer (some ⟨p1,0,none⟩),.pointer (some ⟨p2,0,none⟩),.pointer (some ⟨p3,0,none⟩),.pointer (some ⟨p4,0,none⟩)])
    clear hI4 HCV y4 hl2 c2 hlt2
    have y5:w4.cell? ⟨b2,5,none⟩=some (.slice none 0 0):=za hc4
    have hl2:=zc hc4
    have c1:=HB4.out.c1
    have hlt1:=zi c1
    clear hc4 hx4
    go_wp2_with fail
    refine HWN.out.mono ?_
    rintro e w5 ⟨rfl,hb5⟩
    have hc5:=(hb5.block b2 (zc HC4.out)).trans HC4.out
    have HX5:=zh (HX4.out.trans (Ext.of_below hb5))
    have HB5:=zh (HB4.out.on hb5)
    have HI5:=zh (HV.out.on HI4.out hb5)
    have HWM:=zh (walk_nil w5 none 0 (.func 132) #[] #[.pointer (some ⟨p1,0,none⟩),.pointer (some ⟨p2,0,none⟩),.pointer (some ⟨p3,0,none⟩),.pointer (some ⟨p4,0,none⟩)])
    clear HWN y5 hl2 c1 hlt1
    have y6:w5.cell? ⟨b2,6,none⟩=some (.slice none 0 0):=za hc5
    have hl2:=zc hc5
    have c1:=HB5.out.c1
    have hlt1:=zi c1
    clear hc5 hb5
    go_wp2_with fail
    refine HWM.out.mono ?_
    rintro e w6 ⟨rfl,hb6⟩
    have HX6:Hid (Ext b wr w6):=(Ext.of_below HBq.out).trans (HX5.out.trans (Ext.of_below hb6))
    have HI6:Hid (I ((allX ix++allX vl).foldl (fun s y=>stp y s) s) w6):=by
     rw[List.foldl_append]
     exact HV.out.on HI5.out hb6
    clear HWM y6 hl2 c1 hlt1 hb6
    go_wp2_with fail
    go_roundg 0
    case measure=>omega
    case rel=>exact⟨1,by omega,rfl,by go_num,Or.inr ⟨rfl,HI6,HX6⟩⟩
  ·go_wp2_with fail
   go_end0
   exact⟨rfl,HIF.out,(Ext.of_below HBW.out).trans HXF.out⟩
end Go.Proofs.YthnoedjbhbkdeaaGreatDoor
namespace Go.Proofs.YthnoedjbhbkdeaaGreatDoor
open Go.RowKit Go.Sort
open Tp (X Seen R)
def refOf (y:X):R:=⟨y.code,y.pos,y.mod,y.name,y.args.length⟩
def fnd (J:R->Tp.Ck) (l:List R) (f:Int× Int):Int× Int:=l.foldl (fun f r=>stpF (J r) f) f
theorem stpF_none (f:Int× Int):stpF none f=f:=by
 unfold stpF
 split
 ·rename_i h;rw[h];rfl
 ·rfl
theorem yC (J:R->Tp.Ck) (l m:List R) (f:Int× Int):fnd J (l++m) f=fnd J m (fnd J l f):=by unfold fnd;rw[List.foldl_append]
theorem kO (J:R->Tp.Ck):∀(l:List R) (f:Int× Int),f≠(0,-1)->fnd J l f=f:=by
 intro l
 induction l with
 | nil=>intro f _;rfl
 | cons r l ih =>
  intro f h
  show fnd J l (stpF (J r) f)=f
  have e:stpF (J r) f=f:=by unfold stpF;rw[if_neg h]
  rw[e]
  exact ih f h
def Bad (J:R->Tp.Ck):Prop:=∀ r c,J r=some c->ftC (some c)≠(0,-1)
theorem kP {J:R->Tp.Ck}(hJ:Bad J):∀ l:List R,fnd J l (0,-1)=ftC (l.findSome? J):=by
 intro l
 induction l with
 | nil=>rfl
 | cons r l ih =>
  show fnd J l (stpF (J r) (0,-1))=_
  have e:stpF (J r) (0,-1)=ftC (J r):=by unfold stpF;rw[if_pos rfl]
  rw[e,List.findSome?_cons]
  cases h:J r with
  | none=>exact ih
  | some c=>exact kO J l _ (hJ r c h)
theorem yE (m:Tp.M) (own:List (List UInt8)) (Sn:Seen):Bad (Tp.judge m own Sn):=by
 intro r c h
 rw[vC]at h
 unfold jdC at h
 split at h
 ·rename_i e he
  have:=xV he
  cases h
  intro q
  have:=congrArg Prod.fst q
  simp only [ftC]at this
  omega
 ·split at h
  ·cases h;simp[ftC]
  ·split at h
   ·cases h;simp[ftC]
   ·cases h
theorem fndX (m:Tp.M) (own:List (List UInt8)) (Sn:Seen):∀(N:Nat) (l:List X),SizeOf.sizeOf l<=N->∀ f,(allX l).foldl (fun s y=>stpF (jdN m own Sn (refOf y)) s) f=fnd (Tp.judge m own Sn) (Tp.rx l) f:=by
 intro N
 induction N with
 | zero=>intro l h;cases l <;> simp at h <;> omega
 | succ N ih =>
  intro l h f
  cases l with
  | nil=>rw[kW,Tp.rx];rfl
  | cons x l =>
   obtain⟨code,pos,n,md,nm,op,le,ri,ar⟩:=x
   have hs:SizeOf.sizeOf le<=N/\SizeOf.sizeOf ri<=N/\SizeOf.sizeOf ar<=N/\SizeOf.sizeOf l<=N:=by
    simp only [List.cons.sizeOf_spec,X.mk.sizeOf_spec]at h
    omega
   rw[allX,Tp.rx]
   simp only [List.foldl_cons,List.foldl_append,yC]
   rw[ih le hs.1,ih ri hs.2.1,ih ar hs.2.2.1,ih l hs.2.2.2]
   congr 4
   show stpF (jdN m own Sn ⟨code,pos,md,nm,ar.length⟩) f=_
   unfold jdN
   simp only
   by_cases hc:code=2\/code=3\/code=6
   ·rw[if_pos hc,if_pos hc];rfl
   ·rw[if_neg hc,if_neg hc,stpF_none];rfl
theorem look_vis {m:Tp.M}{wJ:World}{fb mb ob sb:Nat}{ia ga pa ba oa:Option Addr}{ic gc pc bc oc:Nat}(h:MB wJ wJ.heap.size m ia ga pa ba ic gc pc bc) (hs:m.imports.length<=1000/\m.vars.length<=1000/\m.procs.length<=1000/\∀ p∈m.procs,p.params.length<=1000) {own:List (List UInt8)}(hO:Row wJ (fun b=>b<wJ.heap.size) 9 1 (.slice oa own.length oc) own.length (strs own)) (hol:own.length<=1000)
  {so:Option Nat} {Sn:Seen} (hS:SeenV wJ (.map so) Sn) (hfine:wJ.cell? ⟨0,0,none⟩=some (.int .i64 0)/\wJ.cell? ⟨0,1,none⟩=some (.int .i64 (-1)))
  {f:Int× Int} {W:World} (hI:LkI wJ fb mb ob sb (mcells (bs m.name) (.slice ia m.imports.length ic) (.slice ga m.vars.length gc) (.slice pa m.procs.length pc) (.slice ba m.body.length bc)) (.slice oa own.length oc) so f W) {code pos an ac x:Nat} {aa:Option Addr} {v2 v5 v6 v7:Value} {md nm:List UInt8} (hml:md.length<=1000000) (han:an<=9223372036854775807) (hx:W.heap[x]?=some (.cells #[.int .i64 (code:Int),.int .i64 (pos:Int),v2,.string (bs md),.string (bs nm),v5,v6,v7,.slice aa an ac] 111 (0,0))) :
  Calls Tryz.prog 132 #[.pointer (some ⟨x,0,none⟩),.pointer (some ⟨fb,0,none⟩),.pointer (some ⟨mb,0,none⟩),.pointer (some ⟨ob,0,none⟩),.pointer (some ⟨sb,0,none⟩)] W fun e w'=>e=.returned (.tuple #[])/\LkI wJ fb mb ob sb (mcells (bs m.name) (.slice ia m.imports.length ic) (.slice ga m.vars.length gc) (.slice pa m.procs.length pc) (.slice ba m.body.length bc)) (.slice oa own.length oc) so (stpF (jdN m own Sn ⟨code,pos,md,nm,an⟩) f) w'/\Ext fb W w':=by
 have hk:∀ b,b<wJ.heap.size->b<wJ.heap.size->W.heap[b]?=wJ.heap[b]?/\b<W.heap.size:=fun b hi _=>⟨hI.bel.block b hi,Nat.lt_of_lt_of_le hi hI.bel.size⟩
 obtain⟨pcs,p1,p2⟩:=h.pr
 obtain⟨bcs,b1,b2⟩:=h.bd
 have hf0:W.cell? ⟨0,0,none⟩=some (.int .i64 0):=(hI.bel.cell (p:=⟨0,0,none⟩) (zi hfine.1)).trans hfine.1
 have hf1:W.cell? ⟨0,1,none⟩=some (.int .i64 (-1)):=(hI.bel.cell (p:=⟨0,1,none⟩) (zi hfine.2)).trans hfine.2
 exact look_post hI ⟨hf0,hf1⟩ (judge_post ⟨h.im.mono hk,h.gl.mono hk,⟨pcs,p1.mono hk _ _,p2.mono hk⟩,⟨bcs,b1.mono' hk,b2.mono hk⟩⟩ hs (hO.mono hk) hol (hS.on hI.bel) hml han hx ⟨hf0,hf1⟩)
end Go.Proofs.YthnoedjbhbkdeaaGreatDoor
namespace Go.Proofs.YthnoedjbhbkdeaaGreatDoor
open Go.RowKit Go.Sort
open Tp (X Seen R S)
theorem ug {l:List S}{i:Nat}(h:i<l.length):Tp.rs (l.take (i+1))=Tp.rs (l.take i)++Tp.rs [l[i]]:=by rw[List.take_succ_eq_append_getElem h,rs_app]
theorem rs_s (s:S):Tp.rs [s]=(if s.code=1 then [⟨if s.index.isEmpty then 2 else 3,s.pos,[],s.name,0⟩] else [])++Tp.rx s.index++Tp.rx s.value++Tp.rs s.thn++Tp.rs s.els:=by
 obtain⟨⟩:=s
 rw[Tp.rs,Tp.rs]
 simp
theorem ja_boxes {m:Tp.M}{wJ:World}{ia ga pa ba oa:Option Addr}{ic gc pc bc oc:Nat}{own:List (List UInt8)}{so:Option Nat}:∃ fb mb ob sb rb:Nat,mb=wJ.heap.size/\ob=wJ.heap.size+1/\sb=wJ.heap.size+2/\rb=wJ.heap.size+3/\fb=wJ.heap.size+4/\LkI wJ fb mb ob sb #[.string (bs m.name),.slice ia m.imports.length ic,.slice ga m.vars.length gc,.slice pa m.procs.length pc,.slice ba m.body.length bc] (.slice oa own.length oc) so (0,-1) (((((wJ.alloc (.cells #[.string (bs m.name),.slice ia m.imports.length ic,.slice ga m.vars.length gc,.slice pa m.procs.length pc,.slice ba m.body.length bc] 27)).alloc (.cells #[.slice oa own.length oc] 22)).alloc (.cells #[.map so] 53)).alloc (.cells #[.int .i64 0,.int .i64 0] 30)).alloc (.cells #[.int .i64 0,.int .i64 (-1)] 30))/\(((((wJ.alloc (.cells #[.string (bs m.name),.slice ia m.imports.length ic,.slice ga m.vars.length gc,.slice pa m.procs.length pc,.slice ba m.body.length bc] 27)).alloc (.cells #[.slice oa own.length oc] 22)).alloc (.cells #[.map so] 53)).alloc (.cells #[.int .i64 0,.int .i64 0] 30)).alloc (.cells #[.int .i64 0,.int .i64 (-1)] 30)).heap[rb]?=some (.cells #[.int .i64 0,.int .i64 0] 30 (0,0)):=by
 refine⟨_,_,_,_,_,rfl,rfl,rfl,rfl,rfl,⟨?_,?_,?_,?_,?_,by omega⟩,?_⟩
 ·exact((((zb _ _).alloc (by simp <;> omega) _).alloc (by simp <;> omega) _).alloc (by simp <;> omega) _).alloc (by simp <;> omega) _
 ·have:=zl ((((wJ.alloc (.cells #[.string (bs m.name),.slice ia m.imports.length ic,.slice ga m.vars.length gc,.slice pa m.procs.length pc,.slice ba m.body.length bc] 27)).alloc (.cells #[.slice oa own.length oc] 22)).alloc (.cells #[.map so] 53)).alloc (.cells #[.int .i64 0,.int .i64 0] 30)) (.cells #[.int .i64 0,.int .i64 (-1)] 30)
  simpa using this
 ·refine(Below.heap_alloc _ _ _ (by simp <;> omega)).trans ((Below.heap_alloc _ _ _ (by simp <;> omega)).trans ((Below.heap_alloc _ _ _ (by simp <;> omega)).trans ((Below.heap_alloc _ _ _ (by simp <;> omega)).trans (zl _ _))))
 ·refine(Below.heap_alloc _ _ _ (by simp <;> omega)).trans ((Below.heap_alloc _ _ _ (by simp <;> omega)).trans ((Below.heap_alloc _ _ _ (by simp <;> omega)).trans ?_))
  have:=zl (wJ.alloc (.cells #[.string (bs m.name),.slice ia m.imports.length ic,.slice ga m.vars.length gc,.slice pa m.procs.length pc,.slice ba m.body.length bc] 27)) (.cells #[.slice oa own.length oc] 22)
  simpa using this
 ·refine(Below.heap_alloc _ _ _ (by simp <;> omega)).trans ((Below.heap_alloc _ _ _ (by simp <;> omega)).trans ?_)
  have:=zl ((wJ.alloc (.cells #[.string (bs m.name),.slice ia m.imports.length ic,.slice ga m.vars.length gc,.slice pa m.procs.length pc,.slice ba m.body.length bc] 27)).alloc (.cells #[.slice oa own.length oc] 22)) (.cells #[.map so] 53)
  simpa using this
 ·refine(Below.heap_alloc _ _ _ (by simp <;> omega)).trans ?_
  have:=zl (((wJ.alloc (.cells #[.string (bs m.name),.slice ia m.imports.length ic,.slice ga m.vars.length gc,.slice pa m.procs.length pc,.slice ba m.body.length bc] 27)).alloc (.cells #[.slice oa own.length oc] 22)).alloc (.cells #[.map so] 53)) (.cells #[.int .i64 0,.int .i64 0] 30)
  simpa using this
end Go.Proofs.YthnoedjbhbkdeaaGreatDoor
