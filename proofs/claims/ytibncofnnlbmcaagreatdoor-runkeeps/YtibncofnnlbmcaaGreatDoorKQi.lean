import Derived.Test.YtibncofnnlbmcaaGreatDoorKQh
import Derived.Test.YtibncofnnlbmcaaGreatDoorKQa
import Derived.Test.YtibncofnnlbmcaaGreatDoorKPc
import Derived.Test.YtibncofnnlbmcaaGreatDoorKWk
import Derived.KernelRfl
import Derived.Laws.IdiomStrings
set_option maxRecDepth 100000
set_option maxHeartbeats 4000000
namespace Go.Proofs.YtibncofnnlbmcaaGreatDoor
open Go.RowKit Go.Maps
open Tp (Bs X S G Pr Pt Rs Rr Own)
theorem vP {w:World}{i:Nat}{f y:Value}{ns:List Bs}(c:w.heap[i]?=some (.cells #[f,y] 28 (0,0)))(d:w.ownsRow 0 9 1 f ns.length (strs ns))(o:ns.length<=1000) :
  Calls Tryz.prog 34 #[.pointer (some ⟨i,0,none⟩)] w fun e w'=>∃h,e=.returned h/\Below w.heap.size w w'/\w'.ownsRow w.heap.size 9 1 h ns.length (strs ns):=by
 have p:Row w (fun _=>True) 9 1 f ns.length (strs ns):=by
  rcases d.2 with⟨a,v⟩|⟨g,cap,cur,a,_,h3,h4,h5,h6,h7⟩
  ·have:ns=[]:=List.length_eq_zero_iff.1 v
   subst this
   exact Or.inl ⟨a,rfl,rfl⟩
  ·exact Or.inr ⟨g,cap,cur,a,trivial,h3,h4,h5,h6,h7⟩
 have m:=zh (cloneT p (by simp[strs]) (fun u q=>by simp[strs]at q;obtain⟨b,_,rfl⟩:=q;rfl) o)
 obtain⟨t,cap,rfl⟩:=zw d
 have x:w.cell? ⟨i,0,none⟩=some (.slice t ns.length cap):=(za c).trans rfl
 have z:=zf c
 obtain⟨n,k⟩:∃n,n=ns.length:=⟨_,rfl⟩
 rw[<-k]at m x ⊢
 clear c d o p k
 go_enter Tryz.func34,Tryz.ntmps34
 go_wp2_with fail
 refine m.out.mono ?_
 rintro e A⟨h,rfl,j,l⟩
 have r:=zh j
 have s:=zh l
 clear j l
 go_wp2_with fail
 go_ret
 exact⟨_,rfl,r.out,s.out⟩
def GetP (w:World) (r:Option (List Int)) (e:Ending) (w':World):Prop:=Below w.heap.size w w'/\match r with
 |some xs=>∃oa oc,e=.returned (.tuple #[.slice oa xs.length oc,.nilIface])/\IntsAt w' xs oa
 |none=>e=.returned (.tuple #[.slice none 0 0,.iface 44 (.int .i64 7)])
theorem WW.lookT {X:Nat->Prop}{w:World}{f:Nat}{L:List Lo}{P:List Pt}{e:Value}{a:Nat}(h:WW X w f L P e a){lo:Lo}(b:lo∈L)(c:lo.m.name.length<=1000000):(Instr.lookup 26 (.map (some a)) (.string (bs lo.m.name)) false).run Tryz.prog w=.ok (.pointer (some ⟨lo.lb,0,none⟩)) w:=by
 obtain⟨n,_,d⟩:=h.th
 rw[d.look (t:=26) Tryz.underlying26 (zeroLo _) lo.m.name c false]
 have:thrL L lo.m.name=some (.pointer (some ⟨lo.lb,0,none⟩)):=by
  unfold thrL
  rw[(Tp.find_key (key:=fun lo:Lo=>lo.m.name) h.nd lo).2 ⟨b,rfl⟩]
  rfl
 simp[this]
theorem get_in {X:Nat->Prop}{w:World}{F:Nat}{L:List Lo}{P:List Pt}{nv:Value}{U:Nat}(h:WW X w F L P nv U){lo:Lo}(f:lo∈L)(nm:Bs)(a1:nm.length<=1000000) :
  Calls Tryz.prog 23 #[.pointer (some ⟨F,0,none⟩),.string (bs lo.m.name),.string (bs nm)] w (GetP w (Tp.getW P lo.m.name nm)):=by
 have a4:=Tryz.eqNilI
 have a5:=Tryz.eqSomeI
 obtain⟨⟨ia,ga,pa,ba,ic,gc,pc,bc,v,T⟩,_,_,⟨n,C⟩,o⟩:=h.lo lo f
 have a0:lo.m.name.length<=1000000:=by have:=zQ o.wm.n;omega
 have a2:=h.lookT f a0
 have k1:w.cell? ⟨F,1,none⟩=some (.map (some U)):=(za h.blk).trans rfl
 have a6:=zf h.blk
 have k5:w.cell? ⟨lo.lb,5,none⟩=some (.map (some lo.vb)):=(za v).trans rfl
 have a3:=zf v
 have s:=C.look (t:=105) Tryz.underlying105 (zeroI64s _) nm a1 false
 obtain⟨p,z,A,D⟩:=h.vals lo f
 cases a:Tp.varOf lo.m nm with
 |none =>
  have i:Tp.getW P lo.m.name nm=none:=by
   unfold Tp.getW
   rw[z,Option.bind_some,A,if_neg]
   intro q
   obtain⟨g,g1,g2⟩:=List.any_eq_true.1 q
   exact absurd g2 (by simpa using List.find?_eq_none.1 a g g1)
  have G:(Instr.lookup 105 (.map (some lo.vb)) (.string (bs nm)) false).run Tryz.prog w=.ok (.slice none 0 0) w:=by rw[s];simp[loV,a]
  rw[i]
  clear h f v T C o s z A D a i
  generalize bs nm=x at *
  generalize bs lo.m.name=y at *
  go_enter Tryz.func23,Tryz.ntmps23
  go_wp2_with fail
  go_ret2
  exact⟨Below.refl _ _,rfl⟩
 |some g =>
  have r:g∈lo.m.vars:=List.mem_of_find?_eq_some a
  have B:g.name=nm:=by simpa using List.find?_some a
  have i:Tp.getW P lo.m.name nm=some (p.vars nm):=by
   unfold Tp.getW
   rw[z,Option.bind_some,A,if_pos]
   exact List.any_eq_true.2 ⟨g,r,by simpa using B⟩
  obtain⟨d,E,V⟩:=D g r
  rw[B]at d E V
  have G:(Instr.lookup 105 (.map (some lo.vb)) (.string (bs nm)) false).run Tryz.prog w=.ok (.slice (some ⟨lo.sl nm,0,none⟩) (vlen g) (vlen g)) w:=by rw[s];simp[loV,a]
  have M:vlen g<=1000:=by have:=(o.wm.g g r).l;unfold vlen;split<;>omega
  have R:Row w (fun _=>True) 2 1 (.slice (some ⟨lo.sl nm,0,none⟩) (vlen g) (vlen g)) (vlen g) (ints (p.vars nm)):=Or.inr ⟨lo.sl nm,vlen g,_,rfl,trivial,E,Nat.le_refl _,by unfold maxLen;omega,by simp[ints,d],List.take_of_length_le (by simp[ints,d])⟩
  have O:=zh (cloneI R (by simp[ints,d]) (fun u S=>by simp[ints]at S;obtain⟨b,_,rfl⟩:=S;rfl) M)
  have H:Hid (∀w' k,w'.ownsRow w.heap.size 2 1 k (vlen g) (ints (p.vars nm))->∃c j,k=.slice c (p.vars nm).length j/\IntsAt w' (p.vars nm) c):=fun w' k Q=>by
   rw[<-d]at Q
   obtain⟨c,j,e1,e2,_⟩:=uY Q
   exact⟨c,j,e1,e2⟩
  rw[i]
  obtain⟨W,N⟩:∃W,W=vlen g:=⟨_,rfl⟩
  rw[<-N]at G O H
  clear h f v T C o s z A D a i d E V r B R N M
  generalize bs nm=x at *
  generalize bs lo.m.name=y at *
  go_enter Tryz.func23,Tryz.ntmps23
  go_wp2_with fail
  refine O.out.mono ?_
  rintro e w1⟨k,rfl,I,K⟩
  obtain⟨c,j,rfl,J⟩:=H.out w1 k K
  have Y:=zh I
  have Z:=zh J
  clear I K J
  go_wp2_with fail
  go_ret2
  exact⟨Y.out,c,j,rfl,Z.out⟩
theorem MD.prc {w:World}{D:Nat->Prop}{m:Tp.M}{s l d g:Option Addr}{t n v h:Nat}(q:MD w D m s l d g t n v h):PrC w m.procs d:=by
 refine⟨fun i p=>?_⟩
 obtain⟨c,H,vv,F,E,e,hd,G,a,x,y,I,z⟩:=q.procs i p
 obtain⟨A,c3,rfl⟩:=x.shape
 obtain⟨B,j,rfl⟩:=y.shape
 obtain⟨C,k,rfl⟩:=z.shape
 have b:∀o u,w.cell? ⟨c,o,none⟩=some u->w.cell? ⟨c,o,none⟩=some u:=fun o u r=>r
 have f:=zg (b _ _ (a 0 (by omega)))
 exact⟨c,_,A,B,C,_,_,_,c3,j,k,e,f,b _ _ (a 0 (by omega)),b _ _ (a 1 (by omega)),b _ _ (a 2 (by omega)),b _ _ (a 3 (by omega)),b _ _ (a 4 (by omega)),b _ _ (a 5 (by omega))⟩
def cwF (w:World):Cx:=⟨w,w.heap.size,0,[]⟩
theorem rprocD {w:World}{D:Nat->Prop}{m:Tp.M}{C A g y:Option Addr}{E B f z c Y:Nat}(x:w.heap[c]?=some (.cells (lcells m C A g y E B f z Y) 107 (0,0)))(G:MD w D m C A g y E B f z)(S:m.procs.length<=1000)(nm:Bs) :
  Calls Tryz.prog 54 #[.pointer (some ⟨c,0,none⟩),.string (bs nm)] w fun e w'=>∃v,e=.returned (.pointer v)/\ProcP (cwF w) m nm v/\Below w.heap.size w w':=by
 have t:MD w (cwF w).D m C A g y E B f z:=G.mono (fun b _ U=>⟨rfl,U,fun ⟨_,q,_⟩=>by cases q⟩)
 have N:=zf x
 have a0:(m.procs.length:Int)<=1000:=by omega
 have r:Below w.heap.size w (w.alloc (.cells #[.string (bs nm)] 9)):=zb _ _
 have l:=(r.block _ N).trans x
 have W:(w.alloc (.cells #[.string (bs nm)] 9)).cell? ⟨c,3,none⟩=some (.slice g m.procs.length f):=(za l).trans rfl
 have P:Hid (PrC (w.alloc (.cells #[.string (bs nm)] 9)) m.procs g):=t.prc.on r
 have k:=zh (jK (cp:=f) P.out S nm w.heap.size ((za (zo _ _)).trans rfl))
 have o:=zh r
 have H:c<(w.alloc (.cells #[.string (bs nm)] 9)).heap.size:=zf l
 have a4:=zm
 have O:=zh t
 have a1:=zh l
 clear x t G l r
 rcases pidx_in (m:=m) (n:=nm) with⟨h,j⟩|⟨i,hi,h,j⟩
 ·rw[j]at k
  have u:Hid (∀v,v=none->ProcP (cwF w) m nm v):=fun v V=>by unfold ProcP;rw[h];exact V
  clear h j
  generalize m.procs.length=ln at *
  go_enter Tryz.func54,Tryz.ntmps54
  go_wp2_with fail
  refine k.out.mono ?_
  rintro e w2⟨rfl,a⟩
  have s:Hid (Below w.heap.size w w2):=o.out.trans (a.mono o.out.size)
  clear a
  go_wp2_with fail
  go_ret
  exact⟨_,rfl,u.out _ rfl,s.out⟩
 ·rw[h]at k
  obtain⟨F,X,vv,T,Q,e,hd,R,d,I,J,K,L⟩:=O.out.procs i hi
  subst e
  have u:Hid (ProcP (cwF w) m nm (some ⟨F,i*6,none⟩)):=by
   show ProcP _ _ _ _
   unfold ProcP
   rw[j]
   exact⟨F,i*6,rfl,⟨hd,d 0 (by omega),d 2 (by omega),X,vv,T,Q,d 3 (by omega),d 4 (by omega),d 5 (by omega),I,J,K,L⟩⟩
  have a2:(i:Int)<(m.procs.length:Int):=by omega
  have a3:¬(i:Int)<0:=by omega
  clear h j hd R d I J K L hi
  generalize m.procs.length=ln at *
  go_enter Tryz.func54,Tryz.ntmps54
  go_wp2_with fail
  refine k.out.mono ?_
  rintro e w2⟨rfl,a⟩
  have s:Hid (Below w.heap.size w w2):=o.out.trans (a.mono o.out.size)
  have a5:w2.cell? ⟨c,3,none⟩=some (.slice (some ⟨F,0,none⟩) ln f):=(a.cell (p:=⟨c,3,none⟩) H).trans W
  have Z:c<w2.heap.size:=Nat.lt_of_lt_of_le H a.size
  clear a
  go_wp2_with fail
  go_ret
  exact⟨_,rfl,u.out,s.out⟩
theorem WW.more {X:Nat->Prop}{w w':World}{k:Nat}{L:List Lo}{P:List Pt}{f:Value}{i:Nat}(h:WW X w k L P f i)(c:Below w.heap.size w w'):WW (fun b=>X b\/w.heap.size<=b) w' k L P f i:=by
 have A:=zf h.blk
 have y:i<w.heap.size:=by obtain⟨n,_,o⟩:=h.th;exact o.lt
 have x:∀b,f.ownBlock=some b->b<w.heap.size:=fun b e=>(h.nm.lt b e).2
 have d:∀b,StB X L k i f b->b<w.heap.size->w'.heap[b]?=w.heap[b]?/\StB (fun b=>X b\/w.heap.size<=b) L k i f b:=fun b v a=>⟨c.block b a,fun q=>q.elim v.1 (fun z=>by omega),v.2⟩
 refine⟨(c.block _ A).trans h.blk,⟨fun q=>q.elim h.xw.1 (fun z=>by omega),h.xw.2⟩,zH h.nm (fun b _ a _=>c.block b a),fun b e=>⟨fun q=>q.elim (h.nx b e).1 (fun z=>by have:=x b e;omega),(h.nx b e).2⟩,⟨fun q=>q.elim h.tx.1 (fun z=>by omega),h.tx.2⟩,?_,fun lo a=>?_,fun b r=>⟨Nat.lt_of_lt_of_le (h.sv b r).1 c.size,fun q=>q.elim (h.sv b r).2 (fun z=>by have:=(h.sv b r).1;omega)⟩,h.nd,h.inj,fun lo a=>?_,h.mw⟩
 ·obtain⟨n,H,o⟩:=h.th
  exact⟨n,H,o.on (c.block _ y)⟩
 ·obtain⟨⟨I,D,N,B,J,E,O,C,l,F⟩,t,u,⟨n,m⟩,G⟩:=h.lo lo a
  exact⟨⟨I,D,N,B,J,E,O,C,((d _ t (zf l)).1).trans l,F.mono d⟩,(d _ t (zf l)).2,(d _ u m.lt).2,⟨n,m.on (d _ u m.lt).1⟩,G⟩
 ·obtain⟨p,K,M,s⟩:=h.vals lo a
  exact⟨p,K,M,fun g j=>⟨(s g j).1,(c.block _ (h.sv _ ⟨lo,a,g,j,rfl⟩).1).trans (s g j).2.1,(s g j).2.2⟩⟩
def nOf:Rr Int->Int
 | .ok v _=>v
 | _=>0
def WayN (c:Cx) (w1:World) (xn:Nat) (r:Rr Int) (way:Int) (w2:World):Prop:=∃w3,WayA c w1 r way w3/\Ext xn w3 w2/\w2.heap[xn]?=some (.cells #[.int .i64 (nOf r)] 2 (0,0))
theorem call1_post {X:Nat->Prop}{w:World}{wb:Nat}{L:List Lo}{P:List Pt}{nv:Value}{a fuel t u o d ac gas:Nat}{y:Option Addr}{nm:Bs}{p:Pr}{vs:List Int}(h:WW X w wb L P nv a)(Z:fuel<=800000){lo:Lo}(T:lo∈L)(S:Tp.procIn lo.m nm=some p)(N:vs.length=p.params.length)(M:∀v∈vs,Tp.I64 v)(K:IntsAt w vs y)
  (E:w.cell? ⟨t,0,none⟩=some (.pointer (some ⟨lo.lb,0,none⟩)))(G:w.cell? ⟨u,0,none⟩=some (.string (bs nm)))(D:w.cell? ⟨o,0,none⟩=some (.slice y vs.length ac))(F:w.heap[d]?=some (.cells #[.int .i64 0] 2 (0,0)))(R:X d)
  (x:Tp.callP gas 0 lo.m.name p vs ⟨P,fuel,[]⟩≠.gas) :
  Calls Tryz.prog 55 #[.pointer (some ⟨w.heap.size+1,0,none⟩),.pointer (some ⟨t,0,none⟩),.pointer (some ⟨u,0,none⟩),.pointer (some ⟨o,0,none⟩),.pointer (some ⟨d,0,none⟩)] (goesW w (some a) (fuel:Int)) fun e w2=>GoHeld w (goesW w (some a) (fuel:Int)) w2/\((e=.returned (.tuple #[])/\WayN (cxOf w a fuel L) (goesW w (some a) (fuel:Int)) d (Tp.callP gas 0 lo.m.name p vs ⟨P,fuel,[]⟩) 1 w2)\/∃way:Int,thrE endT way e/\WayN (cxOf w a fuel L) (goesW w (some a) (fuel:Int)) d (Tp.callP gas 0 lo.m.name p vs ⟨P,fuel,[]⟩) way w2):=by
 obtain⟨B,J,A⟩:=h.cx fuel Z
 have Q:∀b,VLo L b->b<w.heap.size:=fun b i=>(h.sv b i).1
 have i:=yi w (some a) (fuel:Int)
 have hs:=yx w (some a) (fuel:Int)
 have H:=zh (fun w2 k s=>held_of (w2:=w2) (k:=k) (s:=s) B A Q)
 have U:=zf F
 have O:Hid (∀w2,Kp (cxOf w a fuel L) nY (goesW w (some a) (fuel:Int)) w2->w2.heap[d]?=some (.cells #[.int .i64 0] 2 (0,0))):=fun w2 hk =>
  ((hk.block d (by omega) (by show d≠w.heap.size+1;omega) (fun q=>(h.sv d q).2 R) (A d) (fun q=>q)).trans (i.block d U)).trans F
 have C:=zh ((run_all B gas).cl 0 lo nm p vs (goesW w (some a) (fuel:Int)) ⟨P,fuel,[]⟩ y ac T S N M J (K.on i) x)
 have I:(cxOf w a fuel L).gb=w.heap.size+1:=rfl
 rw[I]at C
 have k1:(goesW w (some a) (fuel:Int)).cell? ⟨t,0,none⟩=some (.pointer (some ⟨lo.lb,0,none⟩)):=(i.cell (p:=⟨t,0,none⟩) (zg E)).trans E
 have k2:(goesW w (some a) (fuel:Int)).cell? ⟨u,0,none⟩=some (.string (bs nm)):=(i.cell (p:=⟨u,0,none⟩) (zg G)).trans G
 have k3:(goesW w (some a) (fuel:Int)).cell? ⟨o,0,none⟩=some (.slice y vs.length ac):=(i.cell (p:=⟨o,0,none⟩) (zg D)).trans D
 have a0:t<(goesW w (some a) (fuel:Int)).heap.size:=zg k1
 have a1:u<(goesW w (some a) (fuel:Int)).heap.size:=zg k2
 have a2:o<(goesW w (some a) (fuel:Int)).heap.size:=zg k3
 clear h B J A Q i E G D F R K M
 generalize cxOf w a fuel L=c at *
 generalize goesW w (some a) (fuel:Int)=w1 at *
 generalize Tp.callP gas 0 lo.m.name p vs ⟨P,fuel,[]⟩=r at *
 generalize vs.length=vn at *
 generalize bs nm=nb at *
 clear I N S
 cases r with
 |gas=>exact absurd rfl x
 |stop way s' =>
  clear x
  go_enter Tryz.func55,Tryz.ntmps55
  go_wp2_with fail
  refine C.out.mono ?_
  rintro e f⟨⟨older,rfl⟩,⟨k',j⟩,g⟩
  have n:Hid (GoHeld w w1 f/\WayN c w1 d (.stop way s':Rr Int) (way:Int) f):=⟨H.out _ _ _ j g,f,⟨rfl,k',j,g⟩,Ext.refl _ _,O.out _ g⟩
  clear j g
  go_wp2_with fail
  exact⟨rfl,n.out.1,Or.inr ⟨(way:Int),⟨older,rfl⟩,n.out.2⟩⟩
 |ok r1 s' =>
  clear x
  go_enter Tryz.func55,Tryz.ntmps55
  go_wp2_with fail
  refine C.out.mono ?_
  rintro e f⟨rfl,j,g,_,_⟩
  have l:=O.out _ g
  have n:Hid (GoHeld w w1 (f.setCell ⟨d,0,none⟩ (.int .i64 r1))/\WayN c w1 d (.ok r1 s') 1 (f.setCell ⟨d,0,none⟩ (.int .i64 r1))):=by
   obtain⟨V,W,oa,on,oc,Y⟩:=H.out _ _ _ j g
   have z:Ext d f (f.setCell ⟨d,0,none⟩ (.int .i64 r1)):=(Ext.refl _ _).set 0 _
   have a4:=g.size
   exact⟨⟨(z.block _ (by omega) (by omega)).trans V,(z.block _ (by omega) (by omega)).trans W,oa,on,oc,(World.cell?_of_block (w:=f) (z.block _ (by show w.heap.size+1<_;omega) (by show w.heap.size+1≠_;omega))).trans Y⟩,f,⟨rfl,0,j,g⟩,z,zu 0 (.int .i64 r1) l⟩
  have n0:f.cell? ⟨d,0,none⟩=some (.int .i64 0):=(za l).trans rfl
  have nz:f.frozen? ⟨d,0,none⟩=false:=zi l
  have a3:=zf l
  clear j g l
  go_wp2_with fail
  exact bodyPost_end (results_none rfl _ _ _) rfl ⟨n.out.1,Or.inl ⟨rfl,n.out.2⟩⟩
structure GonQ (X:Nat->Prop) (w:World) (wb:Nat) (L:List Lo) (nv:Value) (tb xn:Nat) (P':List Pt) (out:List Int) (n:Int) (oa:Option Addr) (w':World):Prop where
 ww:WW X w' wb L P' nv tb
 keep:∀b,b<w.heap.size->b≠xn->¬VLo L b->w'.heap[b]?=w.heap[b]?
 nn:w'.heap[xn]?=some (.cells #[.int .i64 n] 2 (0,0))
 it:IntsAt w' out oa
 oi:∀v∈out,Tp.I64 v
 ol:out.length<=200
 far:∀a,oa=some a->w.heap.size<=a.block
 size:w.heap.size<=w'.heap.size
 os:w'.os=w.os
 tape:w'.tape=w.tape
 output:w'.output=w.output
theorem WW.after2 {X:Nat->Prop}{w w2 w':World}{u:Nat}{L:List Lo}{P:List Pt}{t:Value}{c fuel k i:Nat}{s:Rs}(h:WW X w u L P t c)(z:fuel<=800000)(n:GS (cxOf w c fuel L) w2 s k)(o:Kp (cxOf w c fuel L) nY (goesW w (some c) (fuel:Int)) w2)(r:∀b,b<w2.heap.size->b≠w.heap.size->b≠i->w'.heap[b]?=w2.heap[b]?)(F:w2.heap.size<=w'.heap.size)(m:X i):WW X w' u L s.w t c/\∀b,b<w.heap.size->b≠i->¬VLo L b->w'.heap[b]?=w.heap[b]?:=by
 obtain⟨E,D,x⟩:=h.cx fuel z
 have y:=yi w (some c) (fuel:Int)
 have H:=yx w (some c) (fuel:Int)
 have G:=o.size
 have l:∀b,b<w.heap.size->b≠i->¬VLo L b->w'.heap[b]?=w.heap[b]?:=fun b a A j =>
  ((r b (by omega) (by omega) A).trans (o.block b (by omega) (by show b≠w.heap.size+1;omega) j (x b) (fun q=>q))).trans (y.block b a)
 refine⟨h.keep (fun b a v j=>l b a (fun e=>v (e ▸ m)) j) (by omega) (fun lo a=>?_) n.mw,l⟩
 obtain⟨p,B,C,f⟩:=n.vals lo a
 exact⟨p,B,C,fun g d=>⟨(f g d).1,(r _ (zf (f g d).2.1) (by have:=(h.sv _ ⟨lo,a,g,d,rfl⟩).1;omega) (fun e=>(h.sv _ ⟨lo,a,g,d,rfl⟩).2 (e ▸ m))).trans (f g d).2.1,(f g d).2.2⟩⟩
theorem gone2 {X:Nat->Prop}{w w':World}{z:Nat}{L:List Lo}{P:List Pt}{y:Value}{c fuel i:Nat}{r:Rr Int}{e:Ending}(h:WW X w z L P y c)(R:fuel<=800000)(O:X i)(a0:i<w.heap.size)(S:GoesP w (WayN (cxOf w c fuel L) (goesW w (some c) (fuel:Int)) i r) e w') :
  ∃m p,e=.returned (.agg #[.int .i64 ((Tp.endOf r).2.way:Int),.slice m (Tp.endOf r).2.out.length p])/\GonQ X w z L y c i (Tp.endOf r).1 (Tp.endOf r).2.out (nOf r) m w':=by
 obtain⟨w2,a3,m,U,p,⟨n,v,j,E⟩,Q,D,l⟩:=S
 have H:w'.heap[i]?=some (.cells #[.int .i64 (nOf r)] 2 (0,0)):=(l.block i (zf E) (by omega)).trans E
 have C:∀b,b<n.heap.size->b≠w.heap.size->b≠i->w'.heap[b]?=n.heap[b]?:=fun b d u o=>(l.block b (by have:=j.size;omega) u).trans (j.block b d o)
 have I:n.heap.size<=w'.heap.size:=by have:=l.size;have:=j.size;omega
 have A:∀(s:Rs) (k:Nat),GS (cxOf w c fuel L) n s k->Kp (cxOf w c fuel L) nY (goesW w (some c) (fuel:Int)) n->U=s.out.length/\GonQ X w z L y c i s.w s.out (nOf r) m w':=by
  intro s k g f
  have d:=yi w (some c) (fuel:Int)
  have Z:=d.size
  have W:=yx w (some c) (fuel:Int)
  have Y:=f.size
  obtain⟨J,G⟩:=h.after2 R g f C I O
  obtain⟨V,u,o⟩:=g.outIs
  have B:w2.cell? ⟨w.heap.size+1,3,none⟩=some V:=(World.cell?_of_block (w:=n) (j.block (w.heap.size+1) (by omega) (by omega))).trans u
  rw[Q]at B
  have N:=(Option.some.inj B).symm
  rw[N]at o
  have F:=zH (w':=w') o (fun b d T _=>C b T (by have:w.heap.size+1+1<=b:=d;omega) (by have:w.heap.size+1+1<=b:=d;omega))
  obtain⟨a1,a2,t,K,M,_⟩:=uY F
  injection t with t e4 e5
  subst t
  exact⟨e4,J,G,H,K,g.oi,g.ol,fun a q=>by have:w.heap.size+1+1<=a.block:=M a q;omega,by omega,((l.os.trans j.os).trans f.os).trans d.os,((l.tape.trans j.tape).trans f.tape).trans d.tape,((l.output.trans j.output).trans f.output).trans d.output⟩
 cases r with
 |gas=>exact v.elim
 |ok x s=>obtain⟨rfl,k,g,f⟩:=v;obtain⟨rfl,q⟩:=A s k g f;exact⟨m,p,D,q⟩
 |stop wy s=>obtain⟨rfl,k,g,f⟩:=v;obtain⟨rfl,q⟩:=A s k g f;exact⟨m,p,D,q⟩
def CallP (X:Nat->Prop) (w:World) (wb:Nat) (L:List Lo) (nv:Value) (tb:Nat) (r:Rr Int) (e:Ending) (w':World):Prop:=∃oa oc,e=.returned (.tuple #[.agg #[.int .i64 ((Tp.endOf r).2.way:Int),.slice oa (Tp.endOf r).2.out.length oc],.int .i64 (nOf r),.nilIface])/\WW X w' wb L (Tp.endOf r).1 nv tb/\IntsAt w' (Tp.endOf r).2.out oa/\(∀v∈(Tp.endOf r).2.out,Tp.I64 v)/\(∀b,b<w.heap.size->¬VLo L b->w'.heap[b]?=w.heap[b]?)/\w.heap.size<=w'.heap.size/\w'.os=w.os/\w'.tape=w.tape/\w'.output=w.output/\(Tp.endOf r).2.out.length<=200/\∀a,oa=some a->w.heap.size<=a.block
structure Ext2 (a b:Nat) (w w':World):Prop where
 os:w'.os=w.os
 tape:w'.tape=w.tape
 output:w'.output=w.output
 size:w.heap.size<=w'.heap.size
 block:∀k,k<w.heap.size->k≠a->k≠b->w'.heap[k]?=w.heap[k]?
theorem Ext2.refl (a b:Nat)(w:World):Ext2 a b w w:=⟨rfl,rfl,rfl,Nat.le_refl _,fun _ _ _ _=>rfl⟩
theorem Ext2.set {a b:Nat}{w w':World}(h:Ext2 a b w w'){c:Nat}(l:c=a\/c=b)(i:Nat)(v:Value):Ext2 a b w (w'.setCell ⟨c,i,none⟩ v):=by
 have d:Ext c w' (w'.setCell ⟨c,i,none⟩ v):=(Ext.refl _ _).set i _
 exact⟨d.os.trans h.os,d.tape.trans h.tape,d.output.trans h.output,Nat.le_trans h.size d.size,fun k j f g=>(d.block k (Nat.lt_of_lt_of_le j h.size) (fun e=>l.elim (fun z=>f (e.trans z)) (fun z=>g (e.trans z)))).trans (h.block k j f g)⟩
theorem Ext2.drew {a b:Nat}{w w':World}(h:Ext2 a b w w'):Ext2 a b w w'.drew:=⟨h.os,h.tape,h.output,h.size,h.block⟩
theorem call_ok {X:Nat->Prop}{w:World}{D:Nat}{L:List Lo}{P:List Pt}{nv:Value}{Q fuel ac gas:Nat}{F:Option Addr}{nm:Bs}{p:Pr}{vs:List Int}(h:WW X w D L P nv Q)(hf:fuel<=800000){lo:Lo}(a1:lo∈L)(hp:Tp.procIn lo.m nm=some p)(c9:p.seen=true)(a9:vs.length=p.params.length)(d0:∀v∈vs,Tp.I64 v)(c5:IntsAt w vs F)(e4:lo.m.name.length<=1000000)(g3:vs.length<=1000000)
  (c7:Tp.callP gas 0 lo.m.name p vs ⟨P,fuel,[]⟩≠.gas) :
  Calls Tryz.prog 27 #[.pointer (some ⟨D,0,none⟩),.string (bs lo.m.name),.string (bs nm),.slice F vs.length ac,.int .i64 (fuel:Int)] w (CallP X w D L nv Q (Tp.callP gas 0 lo.m.name p vs ⟨P,fuel,[]⟩)):=by
 obtain⟨x,E⟩:∃x,x=(((w.alloc (.cells #[.string (bs nm)] 9)).alloc (.cells #[.slice F vs.length ac] 29)).alloc (.cells #[.int .i64 0,.slice none 0 0] 43)).alloc (.cells #[.int .i64 0] 2):=⟨_,rfl⟩
 obtain⟨u,U⟩:∃u,u=x.alloc (.cells #[.pointer (some ⟨lo.lb,0,none⟩)] 88):=⟨_,rfl⟩
 have c8:x.heap.size=w.heap.size+4:=by rw[E];simp
 have Z:Below w.heap.size w x:=by rw[E];exact(((zb _ _).alloc (by simp) _).alloc (by simp;omega) _).alloc (by simp;omega) _
 have M:Below x.heap.size x u:=by rw[U];exact zb _ _
 have a0:Below w.heap.size w u:=Z.trans (M.mono (by omega))
 have f8:u.heap.size=w.heap.size+5:=by rw[U];simp[c8]
 have q0:x.heap[w.heap.size]?=some (.cells #[.string (bs nm)] 9 (0,0)):=by rw[E];exact(((Below.heap_alloc _ _ _ (by simp;omega)).trans (Below.heap_alloc _ _ _ (by simp;omega))).trans (Below.heap_alloc _ _ _ (by simp))).trans (zo _ _)
 have q1:x.heap[w.heap.size+1]?=some (.cells #[.slice F vs.length ac] 29 (0,0)):=by
  have:=zo (w.alloc (.cells #[.string (bs nm)] 9)) (.cells #[.slice F vs.length ac] 29)
  rw[E];exact((Below.heap_alloc _ _ _ (by simp)).trans (Below.heap_alloc _ _ _ (by simp))).trans (by simpa using this)
 have q2:x.heap[w.heap.size+2]?=some (.cells #[.int .i64 0,.slice none 0 0] 43 (0,0)):=by
  have:=zo ((w.alloc (.cells #[.string (bs nm)] 9)).alloc (.cells #[.slice F vs.length ac] 29)) (.cells #[.int .i64 0,.slice none 0 0] 43)
  rw[E];exact(Below.heap_alloc _ _ _ (by simp)).trans (by simpa using this)
 have q3:x.heap[w.heap.size+3]?=some (.cells #[.int .i64 0] 2 (0,0)):=by
  have:=zo (((w.alloc (.cells #[.string (bs nm)] 9)).alloc (.cells #[.slice F vs.length ac] 29)).alloc (.cells #[.int .i64 0,.slice none 0 0] 43)) (.cells #[.int .i64 0] 2)
  rw[E];simpa using this
 have q4:u.heap[w.heap.size+4]?=some (.cells #[.pointer (some ⟨lo.lb,0,none⟩)] 88 (0,0)):=by
  have:=zo x (.cells #[.pointer (some ⟨lo.lb,0,none⟩)] 88)
  rw[c8]at this
  rw[U];exact this
 have p0:=(M.block _ (zf q0)).trans q0
 have p1:=(M.block _ (zf q1)).trans q1
 have p2:=(M.block _ (zf q2)).trans q2
 have p3:=(M.block _ (zf q3)).trans q3
 have d1:=zf h.blk
 have k1:x.cell? ⟨D,1,none⟩=some (.map (some Q)):=(za ((Z.block _ d1).trans h.blk)).trans rfl
 have e3:(Instr.lookup 26 (.map (some Q)) (.string (bs lo.m.name)) false).run Tryz.prog x=.ok (.pointer (some ⟨lo.lb,0,none⟩)) x:=by
  obtain⟨n,_,hm⟩:=h.th
  have h1:=(hm.on (Z.block _ hm.lt)).look (t:=26) Tryz.underlying26 (zeroLo _) lo.m.name e4 false
  rw[h1]
  have:thrL L lo.m.name=some (.pointer (some ⟨lo.lb,0,none⟩)):=by
   unfold thrL
   rw[(Tp.find_key (key:=fun lo:Lo=>lo.m.name) h.nd lo).2 ⟨a1,rfl⟩]
   rfl
  simp[this]
 have d2:=h.more a0
 obtain⟨⟨ia,ga,pa,ba,ic,gc,pc,bc,m1,m2⟩,_,_,_,b3⟩:=d2.lo lo a1
 have b9:=zh (rprocD m1 m2 (by have:=b3.wm.pc;omega) nm)
 obtain⟨r,hr⟩:∃r,r=Tp.callP gas 0 lo.m.name p vs ⟨P,fuel,[]⟩:=⟨_,rfl⟩
 have b8:Hid (∀v,ProcP (cwF u) lo.m nm v->∃A o W Y,v=some ⟨A,o,none⟩/\u.cell? ⟨A,o+2,none⟩=some (.bool true)/\u.cell? ⟨A,o+3,none⟩=some (.slice W vs.length Y)):=by
  intro v C
  unfold ProcP at C
  rw[hp]at C
  obtain⟨A,o,e,q⟩:=C
  obtain⟨pv,vv,bv,f3,r1,r2,r3,r4,_⟩:=q.r
  obtain⟨W,Y,rfl⟩:=r4.shape
  exact⟨A,o,W,Y,e,by have:=q.sn;rw[c9]at this;exact this,by rw[a9];exact r1⟩
 have b7:Hid (∀z,Below u.heap.size u z->Calls Tryz.prog 41 #[.pointer (some ⟨D,0,none⟩),.int .i64 (fuel:Int),.func (.func 55) #[] #[.pointer (some ⟨w.heap.size+4,0,none⟩),.pointer (some ⟨w.heap.size,0,none⟩),.pointer (some ⟨w.heap.size+1,0,none⟩),.pointer (some ⟨w.heap.size+3,0,none⟩)]] z fun e s=>∃f k,e=.returned (.agg #[.int .i64 ((Tp.endOf r).2.way:Int),.slice f (Tp.endOf r).2.out.length k])/\s.heap[w.heap.size+2]?=some (.cells #[.int .i64 0,.slice none 0 0] 43 (0,0))/\s.heap[w.heap.size+3]?=some (.cells #[.int .i64 (nOf r)] 2 (0,0))/\∀d,d.os=s.os->d.tape=s.tape->d.output=s.output->s.heap.size<=d.heap.size->(∀b,b<s.heap.size->b≠w.heap.size+2->b≠w.heap.size+3->d.heap[b]?=s.heap[b]?)->CallP X w D L nv Q r (.returned (.tuple #[.agg #[.int .i64 ((Tp.endOf r).2.way:Int),.slice f (Tp.endOf r).2.out.length k],.int .i64 (nOf r),.nilIface])) d):=by
  intro z y
  have G:Below w.heap.size w z:=a0.trans (y.mono (by omega))
  have f9:=y.size
  have a2:=h.more G
  have t0:=(y.block _ (zf p0)).trans p0
  have t1:=(y.block _ (zf p1)).trans p1
  have t2:=(y.block _ (zf p2)).trans p2
  have t3:=(y.block _ (zf p3)).trans p3
  have t4:=(y.block _ (zf q4)).trans q4
  have hX:(fun b=>X b\/w.heap.size<=b) (w.heap.size+3):=Or.inr (by omega)
  have c6:=call1_post (gas:=gas) a2 hf a1 hp a9 d0 (c5.on G) ((za t4).trans rfl) ((za t0).trans rfl) ((za t1).trans rfl) t3 hX c7
  rw[<-hr]at c6
  have e1:=uf (caps:=#[.pointer (some ⟨w.heap.size+4,0,none⟩),.pointer (some ⟨w.heap.size,0,none⟩),.pointer (some ⟨w.heap.size+1,0,none⟩),.pointer (some ⟨w.heap.size+3,0,none⟩)]) cf_call ((za a2.blk).trans rfl) c6
  refine e1.mono ?_
  intro e s hG
  obtain⟨f,k,he,l⟩:=gone2 a2 hf hX (by omega) hG
  have e5:∀b,w.heap.size<=b->¬VLo L b:=fun b H q=>(a2.sv _ q).2 (Or.inr H)
  have h9:=l.size
  refine⟨f,k,he,(l.keep _ (by omega) (by omega) (e5 _ (by omega))).trans t2,l.nn,fun d o1 o2 o3 o4 o5=>?_⟩
  refine⟨f,k,rfl,(l.ww.keep (fun b H c4 C=>o5 b H (fun e=>c4 (Or.inr (by omega))) (fun e=>c4 (Or.inr (by omega)))) o4 (fun b0 hl=>?_) l.ww.mw).less (fun b H=>Or.inl H),⟨fun i hi=>?_⟩,l.oi,fun b H C=>?_,by omega,(o1.trans l.os).trans G.os,(o2.trans l.tape).trans G.tape,(o3.trans l.output).trans G.output,l.ol,fun a q=>by have:=l.far a q;have:=G.size;omega⟩
  ·obtain⟨p',e6,e7,a4⟩:=l.ww.vals b0 hl
   exact⟨p',e6,e7,fun g O=>⟨(a4 g O).1,(o5 _ (zf (a4 g O).2.1) (fun e=>(l.ww.sv _ ⟨b0,hl,g,O,rfl⟩).2 (Or.inr (by omega))) (fun e=>(l.ww.sv _ ⟨b0,hl,g,O,rfl⟩).2 (Or.inr (by omega)))).trans (a4 g O).2.1,(a4 g O).2.2⟩⟩
  ·obtain⟨b,o,u1,u2,u3⟩:=l.it.c i hi
   have e8:z.heap.size<=b:=l.far _ u1
   exact⟨b,o,u1,by omega,(World.cell?_of_block (w:=s) (o5 b u2 (by omega) (by omega))).trans u3⟩
  ·exact((o5 b (by omega) (by omega) (by omega)).trans (l.keep b (by omega) (by omega) C)).trans (G.block b H)
 have k5:u.cell? ⟨w.heap.size+4,0,none⟩=some (.pointer (some ⟨lo.lb,0,none⟩)):=(za q4).trans rfl
 have k6:u.cell? ⟨w.heap.size,0,none⟩=some (.string (bs nm)):=(za p0).trans rfl
 have a5:=zh p1
 have a6:Hid (u.heap[D]?=some (.cells #[nv,.map (some Q)] 28 (0,0))):=(a0.block _ d1).trans h.blk
 rw[<-hr]
 clear h a1 hp c9 d0 c5 c7 q0 q1 q2 q3 q4 p0 p1 p2 p3 d2 m1 m2 b3 Z M a0 hr
 have e9:(vs.length:Int)<=1000000:=by omega
 clear a9
 generalize vs.length=vn at *
 generalize bs lo.m.name=lmn at *
 generalize bs nm=pnm at *
 generalize (Tp.endOf r).2.out.length=on at *
 go_enter Tryz.func27,Tryz.ntmps27
 go_upto_region 1 with fail
 rw[<-E]
 clear E
 go_upto_region 2 with fail
 rw[<-U,show w.heap.size+1+1+1=w.heap.size+3 from rfl,show w.heap.size+1+1=w.heap.size+2 from rfl]
 clear U e3 k1
 go_wp2_with fail
 refine b9.out.mono ?_
 rintro e z⟨v,rfl,C,y⟩
 obtain⟨A,o,W,Y,rfl,c2,c3⟩:=b8.out v C
 have c0:z.cell? ⟨A,o+2,none⟩=some (.bool true):=(y.cell (p:=⟨A,o+2,none⟩) (zg c2)).trans c2
 have d8:z.cell? ⟨A,o+3,none⟩=some (.slice W vn Y):=(y.cell (p:=⟨A,o+3,none⟩) (zg c3)).trans c3
 have k8:z.cell? ⟨w.heap.size+1,0,none⟩=some (.slice F vn ac):=(za ((y.block _ (zf a5.out)).trans a5.out)).trans rfl
 have f7:A<z.heap.size:=zg c0
 have d7:D<z.heap.size:=zf ((y.block _ (zf a6.out)).trans a6.out)
 have b5:=zh y
 clear C y c2 c3 k5 k6 b9 b8 a5 a6
 go_upto_region 7 with fail
 go_quiet (fail)
 obtain⟨V,a3⟩:∃V,V=z.drewN nq:=⟨_,rfl⟩
 have b6:Hid (Below u.heap.size u V):=by rw[a3];exact below_drewN b5.out _
 have f2:D<V.heap.size:=by rw[a3];exact d7
 rw[<-a3]
 clear a3 c0 d8 k8
 have HG:=zh (b7.out V b6.out)
 go_wp2_with fail
 refine HG.out.mono ?_
 rintro e s⟨f,k,rfl,N,a8,b2⟩
 have b4:=zu 1 (.slice f on k) (zu 0 (.int .i64 ((Tp.endOf r).2.way:Int)) N)
 obtain⟨d,S⟩:∃d,d=(s.setCell ⟨w.heap.size+2,0,none⟩ (.int .i64 ((Tp.endOf r).2.way:Int))).setCell ⟨w.heap.size+2,1,none⟩ (.slice f on k):=⟨_,rfl⟩
 have J:d.heap[w.heap.size+2]?=some (.cells #[.int .i64 ((Tp.endOf r).2.way:Int),.slice f on k] 43 (0,0)):=by rw[S];exact b4
 have b1:Ext2 (w.heap.size+2) (w.heap.size+3) s d:=by rw[S];exact((Ext2.refl _ _ _).set (Or.inl rfl) 0 _).set (Or.inl rfl) 1 _
 have d3:Ext (w.heap.size+2) s d:=by rw[S];exact((Ext.refl _ _).set 0 _).set 1 _
 have R:d.heap[w.heap.size+3]?=some (.cells #[.int .i64 (nOf r)] 2 (0,0)):=(d3.block _ (zf a8) (by omega)).trans a8
 have e0:s.cell? ⟨w.heap.size+2,0,none⟩=some (.int .i64 0):=(za N).trans rfl
 have d9:s.cell? ⟨w.heap.size+2,1,none⟩=some (.slice none 0 0):=(za N).trans rfl
 have ez:∀j,s.frozen? ⟨w.heap.size+2,j,none⟩=false:=fun j=>zi N
 have f4:=zf N
 have I:=zh b1
 have d5:=zh b2
 have f0:d.cell? ⟨w.heap.size+2,0,none⟩=some (.int .i64 ((Tp.endOf r).2.way:Int)):=(za J).trans rfl
 have f1:d.cell? ⟨w.heap.size+2,1,none⟩=some (.slice f on k):=(za J).trans rfl
 have fz:∀j,d.frozen? ⟨w.heap.size+2,j,none⟩=false:=fun j=>zi J
 have n0:d.cell? ⟨w.heap.size+3,0,none⟩=some (.int .i64 (nOf r)):=(za R).trans rfl
 have nz:d.frozen? ⟨w.heap.size+3,0,none⟩=false:=zi R
 have f5:=zf J
 have e2:=zf R
 have d4:=zh J
 have d6:=zh R
 clear N a8 b2 b4 J R b1 d3 HG b7 b5 b6
 generalize (Tp.endOf r).2.way=wy at *
 generalize f6:nOf r=nn at *
 go_upto_region 10 with fail
 rw[<-S]
 clear S e0 d9 ez
 go_region
 obtain⟨B,T⟩:∃B,B=(((d.setCell ⟨w.heap.size+2,0,none⟩ (.int .i64 (wy:Int))).setCell ⟨w.heap.size+2,1,none⟩ (.slice f on k)).setCell ⟨w.heap.size+3,0,none⟩ (.int .i64 nn)).drew:=⟨_,rfl⟩
 have K:Ext2 (w.heap.size+2) (w.heap.size+3) d B:=by rw[T];exact((((Ext2.refl _ _ _).set (Or.inl rfl) 0 _).set (Or.inl rfl) 1 _).set (Or.inr rfl) 0 _).drew
 have a7:B.heap[w.heap.size+2]?=some (.cells #[.int .i64 (wy:Int),.slice f on k] 43 (0,0)):=by
  rw[T]
  have hx:Ext (w.heap.size+3) ((d.setCell ⟨w.heap.size+2,0,none⟩ (.int .i64 (wy:Int))).setCell ⟨w.heap.size+2,1,none⟩ (.slice f on k)) (((d.setCell ⟨w.heap.size+2,0,none⟩ (.int .i64 (wy:Int))).setCell ⟨w.heap.size+2,1,none⟩ (.slice f on k)).setCell ⟨w.heap.size+3,0,none⟩ (.int .i64 nn)):=(Ext.refl _ _).set 0 _
  have hs:=zu 1 (.slice f on k) (zu 0 (.int .i64 (wy:Int)) d4.out)
  exact(hx.block _ (zf hs) (by omega)).trans hs
 have c1:B.heap[w.heap.size+3]?=some (.cells #[.int .i64 nn] 2 (0,0)):=by
  rw[T]
  have hx:Ext (w.heap.size+2) d ((d.setCell ⟨w.heap.size+2,0,none⟩ (.int .i64 (wy:Int))).setCell ⟨w.heap.size+2,1,none⟩ (.slice f on k)):=((Ext.refl _ _).set 0 _).set 1 _
  exact zu 0 (.int .i64 nn) ((hx.block _ e2 (by omega)).trans d6.out)
 have g0:B.cell? ⟨w.heap.size+2,0,none⟩=some (.int .i64 (wy:Int)):=(za a7).trans rfl
 have g1:B.cell? ⟨w.heap.size+2,1,none⟩=some (.slice f on k):=(za a7).trans rfl
 have g2:B.cell? ⟨w.heap.size+3,0,none⟩=some (.int .i64 nn):=(za c1).trans rfl
 have HR:=zh (d5.out B (K.os.trans I.out.os) (K.tape.trans I.out.tape) (K.output.trans I.out.output) (Nat.le_trans I.out.size K.size) (fun b h1 h2 h3=>(K.block b (Nat.lt_of_lt_of_le h1 I.out.size) h2 h3).trans (I.out.block b h1 h2 h3)))
 rw[<-T]
 clear T K a7 c1 f0 f1 fz n0 nz
 go_wp2_with fail
 exact bodyPost_ret (v:=.tuple #[.agg #[.int .i64 (wy:Int),.slice f on k],.int .i64 nn,.nilIface]) (by simp[results,Tryz.results27,go_sem,g0,g1,g2]) rfl HR.out
theorem eq_one {w:World}{b d b2 f c1 c2:Nat}{x:Int}(h:w.cell? ⟨b,d,none⟩=some (.int .i64 x))(i:w.cell? ⟨b2,f,none⟩=some (.int .i64 x)) :
  Calls Tryz.prog 24 #[.slice (some ⟨b,d,none⟩) 1 c1,.slice (some ⟨b2,f,none⟩) 1 c2] w fun e w'=>e=.returned (.bool true)/\Below w.heap.size w w':=by
 have j:b<w.heap.size:=zg h
 have k:b2<w.heap.size:=zg i
 go_enter Tryz.func24,Tryz.ntmps24
 go_wp2_with fail
 refine wp_loop_rounds 2 ?_
 rw[rounds_succ]
 go_upto_region 6 with fail
 go_quiet (fail)
 obtain⟨c,a⟩:∃c,c=w.drewN nq:=⟨_,rfl⟩
 have g:Hid (Below w.heap.size w c):=by rw[a];exact below_drewN (Below.refl _ _) _
 rw[<-a]
 clear a
 go_wp2_with fail
 rw[rounds_succ]
 go_wp2_with fail
 go_ret
 exact⟨rfl,g.out⟩
end Go.Proofs.YtibncofnnlbmcaaGreatDoor
namespace Tp
def txtR:Bs:=[109,111,100,117,108,101,32,109,59,32,118,97,114,32,120,58,32,105,110,116,59,32,112,114,111,99,32,102,42,40,97,41,59,32,98,101,103,105,110,32,120,32,58,61,32,120,32,43,32,97,59,32,114,101,116,117,114,110,32,120,32,42,32,50,59,32,101,110,100,59,32,98,101,103,105,110,32,119,114,105,116,101,32,102,40,51,41,59,32,101,110,100,46]
def modR:M:=⟨[109],[],[⟨[120],14,0,false⟩],[⟨[102],22,true,[[97]],[],[⟨1,40,[120],[],[⟨5,45,0,[],[],[43],[⟨2,45,0,[],[120],[],[],[],[]⟩],[⟨2,49,0,[],[97],[],[],[],[]⟩],[]⟩],[],[]⟩,⟨4,52,[],[],[⟨5,59,0,[],[],[42],[⟨2,59,0,[],[120],[],[],[],[]⟩],[⟨1,63,2,[],[],[],[],[],[]⟩],[]⟩],[],[]⟩]⟩],[⟨5,77,[],[],[⟨6,83,0,[],[102],[],[],[],[⟨1,85,3,[],[],[],[],[],[]⟩]⟩],[],[]⟩]⟩
theorem parseR:parse txtR=.ok modR:=by kernel_rfl
theorem checkR:check modR (fun _=>none)=none:=by simp[check,imps,tw,checkP,rs,rx,judge,stand,kindOf,ownOf,modR]
def fR:Pr:=modR.procs.headD ⟨[],0,false,[],[],[]⟩
def goesR:Bool:=match goS 60 0 [109] (fun _=>none) modR.body ⟨[⟨modR,fresh modR⟩],100,[]⟩ with
 | .ok r s1=>r.2.isNone&&s1.out==[6]&&(match callP 60 0 [109] fR [4] ⟨s1.w,100,[]⟩ with
  | .ok v s2=>v==14&&s2.out==[]
  | _=>false)
 | _=>false
theorem goesR_is:goesR=true:=by kernel_rfl
theorem ranR (a:M->List Sy):(loadW a [] modR 100).err=none/\(loadW a [] modR 100).e=⟨1,[6]⟩/\(callW (loadW a [] modR 100).w [109] [102] [4] 100).err=none/\(callW (loadW a [] modR 100).w [109] [102] [4] 100).e.way=1/\(callW (loadW a [] modR 100).w [109] [102] [4] 100).n=14:=by
 have h:=goesR_is
 unfold goesR at h
 have F:seenW a []=fun _=>none:=by funext k;rfl
 cases c:goS 60 0 [109] (fun _=>none) modR.body ⟨[⟨modR,fresh modR⟩],100,[]⟩ with
 |stop way s1=>rw[c]at h;simp at h
 |gas=>rw[c]at h;simp at h
 |ok r s1 =>
  rw[c]at h
  simp only[Bool.and_eq_true]at h
  obtain⟨⟨i,C⟩,b⟩:=h
  have z:goS (gasOf [⟨modR,fresh modR⟩] modR.body 100) 0 [109] (fun _=>none) modR.body ⟨[⟨modR,fresh modR⟩],100,[]⟩=.ok r s1:=by
   rw[<-c];exact goS_gas goS_enough (by rw[c];simp)
  have B:loadW a [] modR 100=⟨s1.w,⟨1,s1.out⟩,0,none⟩:=by
   unfold loadW
   rw[if_neg (by simp[partOf]),F,checkR]
   simp only
   rw[if_neg (by simp)]
   show (Ans.mk (endOf (goS (gasOf [⟨modR,fresh modR⟩] modR.body 100) 0 [109] (fun _=>none) modR.body ⟨[⟨modR,fresh modR⟩],100,[]⟩)).1 (endOf (goS (gasOf [⟨modR,fresh modR⟩] modR.body 100) 0 [109] (fun _=>none) modR.body ⟨[⟨modR,fresh modR⟩],100,[]⟩)).2 0 none)=_
   rw[z]
   rfl
  have u:s1.out=[6]:=by simpa using C
  have x:ms s1.w=[modR]:=by
   have:=xX (n:=60) (k:=0) (md:=[109]) (own:=fun _=>none) (l:=modR.body) (s:=⟨[⟨modR,fresh modR⟩],100,[]⟩) (by rw[c];simp)
   rw[c]at this
   exact this
  have E:∃p,partOf s1.w [109]=some p/\p.m=modR:=by
   have:=xt s1.w [109]
   rw[x]at this
   cases j:partOf s1.w [109] with
   |none=>rw[j]at this;simp[partM,modR]at this
   |some p =>
    rw[j]at this
    refine⟨p,rfl,?_⟩
    have e:partM [modR] [109]=some modR:=by simp[partM,modR]
    rw[e]at this
    simpa using this
  obtain⟨p,o,t⟩:=E
  cases f:callP 60 0 [109] fR [4] ⟨s1.w,100,[]⟩ with
  |stop way s2=>rw[f]at b;simp at b
  |gas=>rw[f]at b;simp at b
  |ok v s2 =>
   rw[f]at b
   simp only[Bool.and_eq_true]at b
   have G:v=14:=by simpa using b.1
   have A:callP (nd (bodySz s1.w) 100 0) 0 [109] fR [4] ⟨s1.w,100,[]⟩=.ok v s2:=by
    have D:callP (nd (bodySz s1.w) 100 0) 0 [109] fR [4] ⟨s1.w,100,[]⟩≠.gas:=callP_enough (by
     have i:=bodySz_bd s1.w 100 [] p (part_name o).1 fR (by rw[t];simp[fR,modR])
     exact i)
    have y:=xD (d:=60) D
    have g:=xD (d:=nd (bodySz s1.w) 100 0) (n:=60) (k:=0) (md:=[109]) (p:=fR) (vs:=[4]) (s:=⟨s1.w,100,[]⟩) (by rw[f];simp)
    rw[Nat.add_comm]at g
    rw[<-y,g,f]
   have ec:callW s1.w [109] [102] [4] 100=⟨s2.w,⟨1,s2.out⟩,14,none⟩:=by
    unfold callW
    rw[o]
    simp only[Option.bind_some]
    rw[t]
    show (match (some fR:Option Pr) with
     |none=>(⟨s1.w,no,0,some (7,none)⟩:Ans)
     |some q=>if q.params.length≠[(4:Int)].length then ⟨s1.w,no,0,some (2,none)⟩
      else
       let r:=callP (nd (bodySz s1.w) 100 0) 0 [109] q [4] ⟨s1.w,100,[]⟩
       ⟨(endOf r).1,(endOf r).2,(match r with | .ok v _=>v|_=>0),none⟩)=_
    simp only
    rw[if_neg (by simp[fR,modR]),A]
    simp[endOf,G]
   rw[B]
   exact⟨rfl,by rw[u],by rw[ec],by rw[ec],by rw[ec]⟩
end Tp
namespace Go.Proofs.YtibncofnnlbmcaaGreatDoor
open Go.RowKit Go.Maps
open Tp (Bs X S G Pr Pt Rs Rr Own)
def fd (u:Int):Int:=IntKind.u64.wrap (97+bits .and .u64 u 15) % 256
def bd (u:Int):UInt8:=UInt8.ofNat (fd u).toNat
def twoB (u:Int):ByteArray:=⟨#[bd u,bd (u / 16)]⟩
def it4 (s:ByteArray) (u:Int):Nat->ByteArray×Int
 | 0=>(s,u)
 |j+1=>((it4 s u j).1++twoB (it4 s u j).2,(it4 s u j).2 / 256)
def numS (s:ByteArray) (x:Int):ByteArray:=(it4 s (IntKind.u64.wrap x) 8).1
def varS (P:List Pt) (n:Bs) (s:ByteArray) (v:Bs):ByteArray:=match Tp.getW P n v with
 |none=>s++⟨#[45]⟩
 |some xs=>xs.foldl numS (s++bs v)
def vars5:List Bs:=[[120],[121],[116],[117],[122]]
def modS (P:List Pt) (s:ByteArray) (n:Bs):ByteArray:=vars5.foldl (varS P n) (s++bs n)++⟨#[59]⟩
def allB (P:List Pt):ByteArray:=(P.map fun p=>p.m.name).foldl (modS P) ⟨#[]⟩
theorem bd_nat (u:Int):((bd u).toNat:Int)=fd u:=by
 have h:0<=fd u/\fd u<256:=by unfold fd;omega
 unfold bd
 rw[UInt8.toNat_ofNat_of_lt' (by show _<256;omega)]
 omega
theorem it4_size (s:ByteArray)(u:Int)(j:Nat):(it4 s u j).1.size=s.size+2*j:=by
 induction j with
 |zero=>rfl
 |succ j ih =>
  show ((it4 s u j).1++twoB (it4 s u j).2).size=_
  rw[ByteArray.size_append,ih]
  show _+2=_
  omega
theorem vK (a:List Int):∀s:ByteArray,(a.foldl numS s).size=s.size+16*a.length:=by
 induction a with
 |nil=>intro s;rfl
 |cons x t ih =>
  intro s
  show (t.foldl numS (numS s x)).size=_
  rw[ih]
  unfold numS
  rw[it4_size,List.length_cons]
  omega
theorem jM {α β:Type}(f:β->α->β)(a:β)(l:List α)(i:Nat)(b:i<l.length):(l.take (i+1)).foldl f a=f ((l.take i).foldl f a) l[i]:=by
 rw[List.take_succ_eq_append_getElem b,List.foldl_append]
 rfl
theorem WW.getlen {X:Nat->Prop}{w:World}{s:Nat}{L:List Lo}{P:List Pt}{k:Value}{r:Nat}(h:WW X w s L P k r){lo:Lo}(b:lo∈L){nm:Bs}{d:List Int}(a:Tp.getW P lo.m.name nm=some d):d.length<=30:=by
 obtain⟨p,n,o,q⟩:=h.vals lo b
 obtain⟨_,_,_,_,f⟩:=h.lo lo b
 unfold Tp.getW at a
 rw[n,Option.bind_some,o]at a
 split at a
 ·rename_i j
  obtain⟨g,c,i⟩:=List.any_eq_true.1 j
  have e:g.name=nm:=by simpa using i
  cases a
  have:=(q g c).1
  rw[e]at this
  have t:=(f.wm.g g c).l
  rw[this]
  unfold vlen
  split<;>omega
 ·cases a
theorem var_size {P:List Pt}{n v:Bs}(b:v.length=1)(c:∀a,Tp.getW P n v=some a->a.length<=30)(s:ByteArray):(varS P n s v).size<=s.size+500:=by
 unfold varS
 split
 ·rw[ByteArray.size_append]
  show _+1<=_
  omega
 ·rename_i a h
  rw[vK,ByteArray.size_append,yv,b]
  have:=c a h
  omega
theorem Tryz.convB (W:World)(b:Nat)(u:Int)(a:W.cell? ⟨b,0,none⟩=some (.int .u8 (fd u)))(c:W.cell? ⟨b,1,none⟩=some (.int .u8 (fd (u / 16)))):(convert 81 9 (.slice (some ⟨b,0,none⟩) 2 2)).run Tryz.prog W=.ok (.string (twoB u)) W:=by
 refine run_convert_bytes_back (P:=Tryz.prog) W 81 9 5 ⟨b,0,none⟩ 2 [bd u,bd (u / 16)] Tryz.underlying81 Tryz.underlying5 Tryz.underlying9 ?_
 intro j d
 rw[Addr.add_lit]
 match j,d with
 | 0,_=>rw[a];exact congrArg (fun z=>some (Value.int .u8 z)) (bd_nat u).symm
 | 1,_=>rw[c];exact congrArg (fun z=>some (Value.int .u8 z)) (bd_nat (u / 16)).symm
 |k+2,hk=>exact absurd hk (by simp)
end Go.Proofs.YtibncofnnlbmcaaGreatDoor
