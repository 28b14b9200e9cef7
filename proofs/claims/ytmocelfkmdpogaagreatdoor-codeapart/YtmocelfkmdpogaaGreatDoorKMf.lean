import Derived.Test.YtmocelfkmdpogaaGreatDoorKMe
import Derived.Test.YtmocelfkmdpogaaGreatDoorKPc
import Derived.Test.YtmocelfkmdpogaaGreatDoorKOa
import Derived.Defers
import Derived.Recover
import Derived.Maps.RangeWalk
import Derived.Lib.ConvBytes
set_option maxRecDepth 100000
set_option maxHeartbeats 4000000
namespace Go.Proofs.YtmocelfkmdpogaaGreatDoor
open Go.RowKit
theorem ccaught_at (a:Option Addr) (w:World) :
  Calls Tryz.prog 31 #[.iface 103 (.pointer a)] w fun e w'=>e=.returned (.iface 103 (.pointer a))/\w'=w:=by
 have hta:∀(a:Option Addr) (w:World),(Instr.typeAssert (.iface 103 (.pointer a)) 20 103 true).run Tryz.prog w=.ok (.tuple #[.pointer a,.bool true]) w:=fun a w=>by kernel_rfl
 go_enter Tryz.func31,Tryz.ntmps31
 go_wp2
 go_ret
 exact⟨rfl,rfl⟩
theorem ccaught_en (n:Int) (w:World) :
  Calls Tryz.prog 31 #[.iface 97 (.int .i64 n)] w fun e w'=>e=.returned (.iface 97 (.int .i64 n))/\w'=w:=by
 have hta:∀(n:Int) (w:World),(Instr.typeAssert (.iface 97 (.int .i64 n)) 20 103 true).run Tryz.prog w=.ok (.tuple #[.pointer none,.bool false]) w:=fun a w=>by kernel_rfl
 have htb:∀(n:Int) (w:World),(Instr.typeAssert (.iface 97 (.int .i64 n)) 20 97 true).run Tryz.prog w=.ok (.tuple #[.int .i64 n,.bool true]) w:=fun a w=>by kernel_rfl
 go_enter Tryz.func31,Tryz.ntmps31
 go_wp2
 go_ret
 exact⟨rfl,rfl⟩
theorem clate_at (eb ab:Nat) (older:List PanicEntry) (w:World) {xe:Value}(ke:w.cell? ⟨eb,0,none⟩=some xe) (ze:w.frozen? ⟨eb,0,none⟩=false) :
  CallsD Tryz.prog 30 #[.pointer (some ⟨eb,0,none⟩)] (.panicking ({ v:=.iface 103 (.pointer (some ⟨ab,0,none⟩)),recovered:=false } :: older)) w fun e u' w' =>
   e=.returned (.tuple #[])/\u'=.panicking ({ v:=.iface 103 (.pointer (some ⟨ab,0,none⟩)),recovered:=true } :: older)/\w'=w.setCell ⟨eb,0,none⟩ (.iface 103 (.pointer (some ⟨ab,0,none⟩))):=by
 refine callsD_of_wpS Tryz.func30 rfl fun c₀ cs hu=>?_
 apply wpS_seq
 apply wpS_region
 simp[wpOpsS,go_sem,recoverD,hu,Tryz.ntmps30,Exit.thenS]
 refine wpS_of_wp ?_
 generalize hQ:(fun (e:Exit) (a':Act) (w':World)=>bodyPostS Tryz.prog _ _ _ _ e a' _ w')=Q
 show Code.wp Tryz.prog _ _ { tmps:=#[.pointer (some ⟨eb,0,none⟩),.iface 103 (.pointer (some ⟨ab,0,none⟩)),.iface 103 (.pointer (some ⟨ab,0,none⟩)),undef,undef,undef,undef],defers:=[] } w
 go_wp2_with fail
 refine(ccaught_at _ w).mono ?_
 rintro e w' ⟨rfl,rfl⟩
 go_wp2_with fail
 subst hQ
 simp[bodyPostS,results,Tryz.results30]
theorem clate_en (eb:Nat) (n:Int) (older:List PanicEntry) (w:World) {xe:Value}(ke:w.cell? ⟨eb,0,none⟩=some xe) (ze:w.frozen? ⟨eb,0,none⟩=false) :
  CallsD Tryz.prog 30 #[.pointer (some ⟨eb,0,none⟩)] (.panicking ({ v:=.iface 97 (.int .i64 n),recovered:=false } :: older)) w fun e u' w' =>
   e=.returned (.tuple #[])/\u'=.panicking ({ v:=.iface 97 (.int .i64 n),recovered:=true } :: older)/\w'=w.setCell ⟨eb,0,none⟩ (.iface 97 (.int .i64 n)):=by
 refine callsD_of_wpS Tryz.func30 rfl fun c₀ cs hu=>?_
 apply wpS_seq
 apply wpS_region
 simp[wpOpsS,go_sem,recoverD,hu,Tryz.ntmps30,Exit.thenS]
 refine wpS_of_wp ?_
 generalize hQ:(fun (e:Exit) (a':Act) (w':World)=>bodyPostS Tryz.prog _ _ _ _ e a' _ w')=Q
 show Code.wp Tryz.prog _ _ { tmps:=#[.pointer (some ⟨eb,0,none⟩),.iface 97 (.int .i64 n),.iface 97 (.int .i64 n),undef,undef,undef,undef],defers:=[] } w
 go_wp2_with fail
 refine(ccaught_en _ w).mono ?_
 rintro e w' ⟨rfl,rfl⟩
 go_wp2_with fail
 subst hQ
 simp[bodyPostS,results,Tryz.results30]
theorem clate_idle (e:Addr) (w:World) :
  CallsD Tryz.prog 30 #[.pointer (some e)] .returning w fun e u' w'=>e=.returned (.tuple #[])/\u'=.returning/\w'=w:=by
 refine callsD_of_wpS Tryz.func30 rfl fun c₀ cs hu=>?_
 apply wpS_seq
 apply wpS_region
 simp[wpOpsS,go_sem,recoverD,hu,Tryz.ntmps30,Exit.thenS]
 refine wpS_of_wp ?_
 generalize hQ:(fun (e:Exit) (a':Act) (w':World)=>bodyPostS Tryz.prog _ _ _ _ e a' _ w')=Q
 show Code.wp Tryz.prog _ _ { tmps:=#[.pointer (some e),.nilIface,.nilIface,undef,undef,undef,undef],defers:=[] } w
 go_wp2_with fail
 subst hQ
 cases c₀
 simp_all [bodyPostS,results,Tryz.results30]
end Go.Proofs.YtmocelfkmdpogaaGreatDoor
namespace Go.Proofs.YtmocelfkmdpogaaGreatDoor
open Go.RowKit
open Tp (Bs Th Sy Seen X S)
def CheckP (w:World) (res:Tp.Ck) (e:Ending) (w':World):Prop:=Below w.heap.size w w'/\match res with
 | none=>e=.returned .nilIface
 | some (en,none)=>e=.returned (.iface 97 (.int .i64 (en:Int)))
 | some (en,some pl)=>∃ ab,e=.returned (.iface 103 (.pointer (some ⟨ab,0,none⟩)))/\w.heap.size<=ab/\w'.cell? ⟨ab,0,none⟩=some (.int .i64 (en:Int))/\w'.cell? ⟨ab,1,none⟩=some (.int .i64 (pl:Int))
theorem jd {P:Program}{fn:Func}{t1 t2:Array Value}{R:Ending->World->Prop}(h:∀ w v,(results fn t1).run P w=.ok v w->(results fn t2).run P w=.ok v w):∀(ds:List Deferred) (u:FrameMode) (w:World),Leaves P fn t1 R ds u w->Leaves P fn t2 R ds u w:=by
 intro ds
 induction ds with
 | nil =>
  intro u w hl
  cases u with
  | returning=>obtain⟨v,h1,h2⟩:=hl;exact⟨v,h w v h1,h2⟩
  | panicking c=>exact hl
  | run=>exact hl
 | cons d ds ih =>
  intro u w hl
  unfold Leaves at hl ⊢
  obtain⟨h1,fv,cap,f,args,h2,h3,h4⟩:=hl
  refine⟨h1,fv,cap,f,args,h2,h3,CallsD.mono h4 ?_⟩
  intro e u' w' hq
  cases e with
  | returned v=>exact ih _ _ hq
  | panicked c=>exact ih _ _ hq
  | outgrown=>exact hq
theorem xd {t1 t2:Array Value}(h:t1[4]?=t2[4]?):results Tryz.f9 t1=results Tryz.f9 t2:=by
 simp[results,Tryz.results9,h]
theorem jr {R:Ending->World->Prop}{d:Nat}(hd:d≠4) (v:Value) (c:List PanicEntry) (a:Act) (w:World) (h:bodyPostD Tryz.prog Tryz.f9 R (.panic c) (a.put (some d) v) w):bodyPostD Tryz.prog Tryz.f9 R (.panic c) a w:=by
 unfold bodyPostD at h ⊢
 refine jd (fun w u hv=>?_) _ _ _ h
 rw[<-hv]
 rw[xd]
 show a.tmps[4]?=(a.tmps.setIfInBounds d v)[4]?
 rw[Array.getElem?_setIfInBounds_ne hd]
def dfr (eb:Nat):List Deferred:=[{ target:=Target.fn (Fn.func 30) #[.pointer (some ⟨eb,0,none⟩)],args:=#[] }]
theorem jI {w wX:World}{res:Tp.Ck}{eb ab:Nat}{a:Act}(h4:a.tmps[4]?=some (.pointer (some ⟨eb,0,none⟩))) (hd:a.defers=dfr eb) (he:wX.heap[eb]?=some (.cells #[.nilIface] 31 (0,0)))
  (hR:CheckP w res (.returned (.iface 103 (.pointer (some ⟨ab,0,none⟩)))) (wX.setCell ⟨eb,0,none⟩ (.iface 103 (.pointer (some ⟨ab,0,none⟩))))) :
  bodyPostD Tryz.prog Tryz.f9 (CheckP w res) (.panic [{ v:=.iface 103 (.pointer (some ⟨ab,0,none⟩)),recovered:=false }]) a wX:=by
 show Leaves Tryz.prog Tryz.f9 a.tmps (CheckP w res) a.defers (.panicking _) wX
 rw[hd]
 unfold dfr
 refine leaves_cons (f:=30) (args:=#[.pointer (some ⟨eb,0,none⟩)]) (by simp) (by simp[go_sem]) ?_
 refine(clate_at eb ab [] wX ((za he).trans rfl) (zg he)).mono ?_
 rintro e u' w'' ⟨rfl,rfl,hw⟩
 have k:w''.cell? ⟨eb,0,none⟩=some (.iface 103 (.pointer (some ⟨ab,0,none⟩))):=by rw[hw];exact(za (zw 0 _ he)).trans rfl
 rw[<-hw]at hR
 refine jd (t1:=#[undef,undef,undef,undef,.pointer (some ⟨eb,0,none⟩)]) (fun w u hv=>by rw[<-hv];rw[xd];rw[h4];rfl) _ _ _ ?_
 simp[Leaves,settle,results,Tryz.results9,go_sem,k]
 exact hR
theorem cdies_en {w wX:World}{res:Tp.Ck}{eb:Nat}{n:Int}{a:Act}(h4:a.tmps[4]?=some (.pointer (some ⟨eb,0,none⟩))) (hd:a.defers=dfr eb) (he:wX.heap[eb]?=some (.cells #[.nilIface] 31 (0,0)))
  (hR:CheckP w res (.returned (.iface 97 (.int .i64 n))) (wX.setCell ⟨eb,0,none⟩ (.iface 97 (.int .i64 n)))) :
  bodyPostD Tryz.prog Tryz.f9 (CheckP w res) (.panic [{ v:=.iface 97 (.int .i64 n),recovered:=false }]) a wX:=by
 show Leaves Tryz.prog Tryz.f9 a.tmps (CheckP w res) a.defers (.panicking _) wX
 rw[hd]
 unfold dfr
 refine leaves_cons (f:=30) (args:=#[.pointer (some ⟨eb,0,none⟩)]) (by simp) (by simp[go_sem]) ?_
 refine(clate_en eb n [] wX ((za he).trans rfl) (zg he)).mono ?_
 rintro e u' w'' ⟨rfl,rfl,hw⟩
 have k:w''.cell? ⟨eb,0,none⟩=some (.iface 97 (.int .i64 n)):=by rw[hw];exact(za (zw 0 _ he)).trans rfl
 rw[<-hw]at hR
 refine jd (t1:=#[undef,undef,undef,undef,.pointer (some ⟨eb,0,none⟩)]) (fun w u hv=>by rw[<-hv];rw[xd];rw[h4];rfl) _ _ _ ?_
 simp[Leaves,settle,results,Tryz.results9,go_sem,k]
 exact hR
theorem imps_at {own:Bs}{S:Seen}:∀ {l ah:List Bs}{er:Nat× Option Nat},Tp.imps own S ah l=some er->er.2=none:=by
 intro l
 induction l with
 | nil=>intro ah er h;simp[Tp.imps]at h
 | cons n t ih =>
  intro ah er h
  rw[Tp.imps]at h
  split at h
  ·cases h;rfl
  ·split at h
   ·cases h;rfl
   ·exact ih h
theorem fnd_new {w:World}{ob n:Nat}{Sn:Seen}{fs:Near}{vs:List Value}{c:Nat}{t1 t2 t3:TypeId}(h:SeenM w ob n Sn) (_hl:vs.length=fs.length) (hv:∀ i (h:i<fs.length),∃ gb k,vs[i]?=some (.map (some gb))/\MapV w gb k (fun q=>(fs[i] q).map thV)) :
  Fnd (((w.alloc (.cells vs.toArray t1)).alloc (.cells #[.map (some ob)] t2)).alloc (.cells #[.slice (some ⟨w.heap.size,0,none⟩) fs.length c] t3)) (w.heap.size+1) Sn fs:=by
 have h1:Below w.heap.size w (((w.alloc (.cells vs.toArray t1)).alloc (.cells #[.map (some ob)] t2)).alloc (.cells #[.slice (some ⟨w.heap.size,0,none⟩) fs.length c] t3)):=((zb _ _).alloc (by simp) _).alloc (by simp;omega) _
 have e1:(((w.alloc (.cells vs.toArray t1)).alloc (.cells #[.map (some ob)] t2)).alloc (.cells #[.slice (some ⟨w.heap.size,0,none⟩) fs.length c] t3)).heap[w.heap.size]?=some (.cells vs.toArray t1 (0,0)):=((Below.heap_alloc _ _ _ (by simp;omega)).trans (Below.heap_alloc _ _ _ (by simp))).trans (zk _ _)
 have e2:(((w.alloc (.cells vs.toArray t1)).alloc (.cells #[.map (some ob)] t2)).alloc (.cells #[.slice (some ⟨w.heap.size,0,none⟩) fs.length c] t3)).heap[w.heap.size+1]?=some (.cells #[.map (some ob)] t2 (0,0)):=(Below.heap_alloc _ _ _ (by simp)).trans (by simpa using zk (w.alloc (.cells vs.toArray t1)) (.cells #[.map (some ob)] t2))
 have e3:(((w.alloc (.cells vs.toArray t1)).alloc (.cells #[.map (some ob)] t2)).alloc (.cells #[.slice (some ⟨w.heap.size,0,none⟩) fs.length c] t3)).heap[w.heap.size+1+1]?=some (.cells #[.slice (some ⟨w.heap.size,0,none⟩) fs.length c] t3 (0,0)):=by simpa using zk ((w.alloc (.cells vs.toArray t1)).alloc (.cells #[.map (some ob)] t2)) (.cells #[.slice (some ⟨w.heap.size,0,none⟩) fs.length c] t3)
 refine⟨⟨ob,n,(za e2).trans rfl,h.on h1⟩,⟨w.heap.size,c,(za e3).trans rfl,⟨zi e1,fun i hi=>?_⟩⟩,zi e3⟩
 obtain⟨gb,k,q1,q2⟩:=hv i hi
 refine⟨gb,k,?_,q2.on (h1.block _ q2.lt)⟩
 rw[za e1]
 simpa using q1
theorem check_walk {w:World}{nm:Bs}{inn gn pn bn ic gc pc bc:Nat}{ia ga pa ba:Option Addr}{sv:Value}{is:List Bs}{Sn:Seen}{tl:List Th}{ol:Nat->List Th}{sr:Nat->Option (Nat× Nat)}{br:Option (Nat× Nat)}(hsv:∃ so,sv=.map so)
  (hI:∀ W,Below w.heap.size w W->Calls Tryz.prog 32 #[.agg #[.string (bs nm),.slice ia inn ic,.slice ga gn gc,.slice pa pn pc,.slice ba bn bc],sv] W (ImpP W nm is Sn))
  (hG:∀ W,Below w.heap.size w W->Calls Tryz.prog 33 #[.agg #[.string (bs nm),.slice ia inn ic,.slice ga gn gc,.slice pa pn pc,.slice ba bn bc]] W (MapP W tl))
  (hP:∀ i,i<pn->∃(g:Nat) (x0:Bs) (x1:Nat) (x2:Bool) (y3 y4 y5:Option Addr) (n3 n4 n5 c3 c4 c5:Nat),pa=some ⟨g,0,none⟩/\g<w.heap.size/\w.cell? ⟨g,i * 6,none⟩=some (.string (bs x0))/\w.cell? ⟨g,i * 6+1,none⟩=some (.int .i64 (x1:Int))/\w.cell? ⟨g,i * 6+2,none⟩=some (.bool x2)/\w.cell? ⟨g,i * 6+3,none⟩=some (.slice y3 n3 c3)/\w.cell? ⟨g,i * 6+4,none⟩=some (.slice y4 n4 c4)/\w.cell? ⟨g,i * 6+5,none⟩=some (.slice y5 n5 c5) /\
   (∀ W,Below w.heap.size w W->Calls Tryz.prog 36 #[.agg #[.string (bs x0),.int .i64 (x1:Int),.bool x2,.slice y3 n3 c3,.slice y4 n4 c4,.slice y5 n5 c5]] W (MapP W (ol i))) /\
   (∀ W b,Below w.heap.size w W->Fnd W b (fun k=>if k∈is then Sn k else none) [Tp.lkT (ol i),Tp.lkT tl]->Calls Tryz.prog 34 #[.slice y5 n5 c5,finderV b] W (CkP W (sr i))))
  (hB:∀ W b,Below w.heap.size w W->Fnd W b (fun k=>if k∈is then Sn k else none) [Tp.lkT tl]->Calls Tryz.prog 34 #[.slice ba bn bc,finderV b] W (CkP W br)) (hpn:pn<=1000)
  {res:Tp.Ck} (hres:res=(Tp.imps nm Sn [] is).or (Tp.up ((Tp.twP tl 0).or (((List.range pn).findSome? fun i=>(Tp.twP (ol i) 0).or (sr i)).or br)))) :
  Calls Tryz.prog 9 #[.agg #[.string (bs nm),.slice ia inn ic,.slice ga gn gc,.slice pa pn pc,.slice ba bn bc],sv] w (CheckP w res):=by
 have hmf:=zm
 obtain⟨so,rfl⟩:=hsv
 obtain⟨w0,hw0⟩:∃ w0,w0=(w.alloc (.cells #[.string (bs nm),.slice ia inn ic,.slice ga gn gc,.slice pa pn pc,.slice ba bn bc] 29)).alloc (.cells #[.nilIface] 31):=⟨_,rfl⟩
 have hb0:Below w.heap.size w w0:=by rw[hw0];exact(zb _ _).alloc (by simp) _
 have hsz0:w0.heap.size=w.heap.size+2:=by rw[hw0];simp
 have hbm:w0.heap[w.heap.size]?=some (.cells #[.string (bs nm),.slice ia inn ic,.slice ga gn gc,.slice pa pn pc,.slice ba bn bc] 29 (0,0)):=by rw[hw0];exact(Below.heap_alloc _ _ _ (by simp)).trans (zk _ _)
 have hbe:w0.heap[w.heap.size+1]?=some (.cells #[.nilIface] 31 (0,0)):=by
  rw[hw0]
  have:=zk (w.alloc (.cells #[.string (bs nm),.slice ia inn ic,.slice ga gn gc,.slice pa pn pc,.slice ba bn bc] 29)) (.cells #[.nilIface] 31)
  simpa using this
 obtain⟨k0,k1,k2,k3,k4⟩:=zG hbm
 have HI:=zh (hI w0 hb0)
 have HG:=zh hG
 have HP:=zh hP
 have HBD:=zh hB
 have HRES:=zh hres
 have HB0:=zh hb0
 have HBM:=zh hbm
 have HBE:=zh hbe
 have hpn':(pn:Int)<=1000:=by omega
 have hs0:w.heap.size<w0.heap.size:=by omega
 clear hI hG hP hB hres hb0 hbm hbe
 go_enter_defers Tryz.func9,Tryz.ntmps9
 go_upto_region 2 with fail
 rw[<-hw0]
 clear hw0
 go_wp2_with fail
 have HEB:Hid (∀ wX,Below w0.heap.size w0 wX->wX.heap[w.heap.size+1]?=some (.cells #[.nilIface] 31 (0,0))):=fun wX h=>(h.block _ (by omega)).trans HBE.out
 have HOUT:Hid (∀(wX:World) (er:Nat× Nat) (ab:Nat),Below w0.heap.size w0 wX->w0.heap.size<=ab->wX.cell? ⟨ab,0,none⟩=some (.int .i64 (er.1:Int))->wX.cell? ⟨ab,1,none⟩=some (.int .i64 (er.2:Int))->res=some (er.1,some er.2) ->
   CheckP w res (.returned (.iface 103 (.pointer (some ⟨ab,0,none⟩)))) (wX.setCell ⟨w.heap.size+1,0,none⟩ (.iface 103 (.pointer (some ⟨ab,0,none⟩))))):=by
  intro wX er ab h1 h2 h3 h4 h5
  refine⟨zq (HB0.out.trans (h1.mono (by omega))) (by omega) 0 _,?_⟩
  rw[h5]
  exact⟨ab,rfl,by omega,by rw[World.cell?_setCell_far _ _ _ _ (by simp;omega)];exact h3,by rw[World.cell?_setCell_far _ _ _ _ (by simp;omega)];exact h4⟩
 refine HI.out.mono ?_
 intro e w1 hq
 unfold ImpP at hq
 cases himp:Tp.imps nm Sn [] is with
 | some er =>
  rw[himp]at hq
  obtain⟨hb1,rfl⟩:=hq
  have HR2:Hid (res=some (er.1,none)):=by unfold Hid;rw[HRES.out,himp];exact congrArg some (Prod.ext rfl (imps_at himp))
  have H1:=zh hb1
  clear himp hb1
  unfold thrownE
  go_wp2_with fail
  refine cdies_en (eb:=w.heap.size+1) rfl rfl (HEB.out w1 H1.out) ⟨zq (HB0.out.trans (H1.out.mono (by omega))) (by omega) 0 _,?_⟩
  rw[HR2.out]
 | none =>
  rw[himp]at hq
  obtain⟨hb1,ob,on,rfl,hobl,hsm⟩:=hq
  have HB1:=zh hb1
  have hsz1:=hb1.size
  have HSM:=zh hsm
  have HG1:=zh (HG.out w1 (HB0.out.trans (hb1.mono (by omega))))
  have HR2:Hid (res=Tp.up ((Tp.twP tl 0).or (((List.range pn).findSome? fun i=>(Tp.twP (ol i) 0).or (sr i)).or br))):=by unfold Hid;rw[HRES.out,himp];rfl
  obtain⟨l0,l1,l2,l3,l4⟩:=zG ((hb1.block _ hs0).trans HBM.out)
  have hsw1:w.heap.size<w1.heap.size:=by omega
  clear himp hb1 hsm k0 k1 k2 k3 k4 HRES HI HG
  go_wp2_with fail
  refine HG1.out.mono ?_
  intro e w2 hq
  obtain⟨hb2,hq⟩:=hq
  have HB2:Hid (Below w0.heap.size w0 w2):=HB1.out.trans (hb2.mono hsz1)
  have hsz2:=HB2.out.size
  cases htw:Tp.twP tl 0 with
  | some er =>
   rw[htw]at hq
   have HR3:Hid (res=some (er.1,some er.2)):=by unfold Hid;rw[HR2.out,htw];rfl
   obtain⟨ab,q1,rfl,q2,q3⟩:=hq.out
   have Q2:=zh q2
   have Q3:=zh q3
   clear htw hq q2 q3 hb2
   go_wp2_with fail
   exact jI (eb:=w.heap.size+1) rfl rfl (HEB.out w2 HB2.out) (HOUT.out w2 er ab HB2.out (by omega) Q2.out Q3.out HR3.out)
  | none =>
   rw[htw]at hq
   obtain⟨gb,gn',rfl,hgbl,_,hgm⟩:=hq
   have HGM:=zh hgm
   have HSM2:=zh (HSM.out.on hb2)
   have HR3:Hid (res=Tp.up (((List.range pn).findSome? fun i=>(Tp.twP (ol i) 0).or (sr i)).or br)):=by unfold Hid;rw[HR2.out,htw];rfl
   obtain⟨j0,j1,j2,j3,j4⟩:=zG ((HB2.out.block _ hs0).trans HBM.out)
   have hsw2:w.heap.size<w2.heap.size:=by omega
   clear htw hb2 hgm l0 l1 l2 l3 l4 HSM HR2 HG1
   go_wp2_with fail
   go_loopg [18] pn (fun k vi wr=>∃ i:Nat,i<=pn/\k=pn - i/\vi=.int .i64 (i:Int)/\Hid (Below w2.heap.size w2 wr)/\Hid (∀ j,j<i->(Tp.twP (ol j) 0).or (sr j)=none))
   case atStart=>exact⟨0,by omega,by omega,rfl,Below.refl _ _,fun j hj=>absurd hj (by omega)⟩
   case round =>
    obtain⟨i,hid,hk,rfl,HB,HN⟩:=hrel
    have hszr:=HB.out.size
    have HB3:Hid (Below w0.heap.size w0 wr):=HB2.out.trans (HB.out.mono hsz2)
    by_cases hlt:i<pn
    ·have hlt':(i:Int)<(pn:Int):=by omega
     obtain⟨g,x0,x1,x2,y3,y4,y5,n3,n4,n5,c3,c4,c5,hag,hgl,d0,d1,d2,d3,d4,d5,hlo,hst⟩:=HP.out i hlt
     subst hag
     have hbw:Below w.heap.size w wr:=HB0.out.trans (HB3.out.mono (by omega))
     have hcell:∀(o:Nat) (u:Value),w.cell? ⟨g,o,none⟩=some u->wr.cell? ⟨g,o,none⟩=some u:=fun o u h=>(hbw.cell (p:=⟨g,o,none⟩) hgl).trans h
     have kc0:=hcell _ _ d0
     have kc1:=hcell _ _ d1
     have kc2:=hcell _ _ d2
     have kc3:=hcell _ _ d3
     have kc4:=hcell _ _ d4
     have kc5:=hcell _ _ d5
     have hglr:g<wr.heap.size:=by have:=hbw.size;omega
     have HLO:=zh hlo
     have HST:=zh hst
     have HBW:=zh hbw
     clear d0 d1 d2 d3 d4 d5 hcell hlo hst hbw
     obtain⟨w4,hw4⟩:∃ w4,w4=wr.alloc (.cells #[.string (bs x0),.int .i64 (x1:Int),.bool x2,.slice y3 n3 c3,.slice y4 n4 c4,.slice y5 n5 c5] 79):=⟨_,rfl⟩
     have hb4:Below wr.heap.size wr w4:=by rw[hw4];exact zb _ _
     have hk4:w4.heap[wr.heap.size]?=some (.cells #[.string (bs x0),.int .i64 (x1:Int),.bool x2,.slice y3 n3 c3,.slice y4 n4 c4,.slice y5 n5 c5] 79 (0,0)):=by rw[hw4];exact zk _ _
     have hs4:wr.heap.size<w4.heap.size:=by rw[hw4];simp
     have HS4:Hid (∀ W,Below w4.heap.size w4 W->W.cell? ⟨wr.heap.size,0,none⟩=some (.string (bs x0))/\W.cell? ⟨wr.heap.size,1,none⟩=some (.int .i64 (x1:Int))/\W.cell? ⟨wr.heap.size,2,none⟩=some (.bool x2)/\W.cell? ⟨wr.heap.size,3,none⟩=some (.slice y3 n3 c3)/\W.cell? ⟨wr.heap.size,4,none⟩=some (.slice y4 n4 c4)/\W.cell? ⟨wr.heap.size,5,none⟩=some (.slice y5 n5 c5)):=fun W hW=>yT ((hW.block _ hs4).trans hk4)
     have HB4:=zh hb4
     clear hk4 hb4
     go_upto_region 7 with fail
     rw[<-hw4]
     clear hw4
     refine wp_region_held_drew (S:=fun W=>W.cell? ⟨wr.heap.size,0,none⟩=some (.string (bs x0))/\W.cell? ⟨wr.heap.size,1,none⟩=some (.int .i64 (x1:Int))/\W.cell? ⟨wr.heap.size,2,none⟩=some (.bool x2)/\W.cell? ⟨wr.heap.size,3,none⟩=some (.slice y3 n3 c3)/\W.cell? ⟨wr.heap.size,4,none⟩=some (.slice y4 n4 c4)/\W.cell? ⟨wr.heap.size,5,none⟩=some (.slice y5 n5 c5)) (by kernel_rfl) (HS4.out _ ((Below.refl _ _).drew)) (fun hHeld=>?_)
     refine wpAnyH_take (i:=0) (v:=.pointer (some ⟨wr.heap.size,5,none⟩)) rfl (by kernel_rfl) (by kernel_rfl) (by kernel_rfl) (fun c a w h=>jr (by decide) _ c a w h) (Or.inl ⟨by rfl,fun W hW=>by go_simp⟩) hHeld ?_
     go_frame
     refine wpAnyH_take (i:=1) (v:=.slice y5 n5 c5) rfl (by kernel_rfl) (by kernel_rfl) (by kernel_rfl) (fun c a w h=>jr (by decide) _ c a w h) (Or.inl ⟨by rfl,fun W hW=>by go_simp⟩) hHeld ?_
     go_frame
     refine wpAnyH_take (i:=2) (v:=.map (some ob)) rfl (by kernel_rfl) (by kernel_rfl) (by kernel_rfl) (fun c a w h=>jr (by decide) _ c a w h) (Or.inl ⟨by rfl,fun W hW=>by go_simp⟩) hHeld ?_
     go_frame
     refine wpAnyH_take (i:=3) (v:=.agg #[.string (bs x0),.int .i64 (x1:Int),.bool x2,.slice y3 n3 c3,.slice y4 n4 c4,.slice y5 n5 c5]) rfl (by kernel_rfl) (by kernel_rfl) (by kernel_rfl) (fun c a w h=>jr (by decide) _ c a w h) (Or.inl ⟨by rfl,fun W hW=>by go_simp⟩) hHeld ?_
     go_frame
     refine wpAnyH_take (i:=5) (v:=.map (some gb)) rfl (by kernel_rfl) (by kernel_rfl) (by kernel_rfl) (fun c a w h=>jr (by decide) _ c a w h) (Or.inl ⟨by rfl,fun W hW=>by go_simp⟩) hHeld ?_
     go_frame
     refine wpAnyH_ready (rs:=[4]) (by kernel_rfl) (by simp) ?_
     refine AllReadyH.cons rfl (fun K hK=>?_) AllReadyH.nil
     go_simp
     have HBX:Hid (Below w.heap.size w w4.drew):=(HBW.out.trans (HB4.out.mono HBW.out.size)).trans ((Below.refl _ _).drew)
     refine(HLO.out _ HBX.out).mono ?_
     intro e w5 hq
     obtain⟨hb5,hq⟩:=hq
     have hb5':Below w4.heap.size w4 w5:=((Below.refl _ _).drew).trans hb5
     have HB5:Hid (Below w0.heap.size w0 w5):=(HB3.out.trans (HB4.out.mono HB3.out.size)).trans (hb5'.mono (by have:=HB4.out.size;have:=HB3.out.size;omega))
     have hsz4:wr.heap.size<=w4.heap.size:=HB4.out.size
     have hsz5:w4.heap.size<=w5.heap.size:=hb5'.size
     cases htl:Tp.twP (ol i) 0 with
     | some er =>
      rw[htl]at hq
      have HR4:Hid (res=some (er.1,some er.2)):=by
       unfold Hid
       rw[HR3.out,zT (f:=fun i=>(Tp.twP (ol i) 0).or (sr i)) hlt HN.out (show (Tp.twP (ol i) 0).or (sr i)=some er by rw[htl];rfl)]
       rfl
      obtain⟨ab,q1,rfl,q2,q3⟩:=hq.out
      have hab:w0.heap.size<=ab:=by have:w4.drew.heap.size=w4.heap.size:=rfl;have:=HB3.out.size;omega
      exact jI (eb:=w.heap.size+1) rfl rfl (HEB.out w5 HB5.out) (HOUT.out w5 er ab HB5.out hab q2 q3 HR4.out)
     | none =>
      rw[htl]at hq
      obtain⟨lb,ln,rfl,_,_,hlm⟩:=hq
      have HLM:=zh hlm
      have HTL:=zh htl
      have HB25:Hid (Below w2.heap.size w2 w5):=HB.out.trans ((HB4.out.trans (hb5'.mono hsz4)).mono hszr)
      have HS5:=zh hb5'
      clear hlm htl hb5 hb5'
      go_frame
      refine hK.out _ _ (HS4.out _ HS5.out) (fun hHeld=>?_)
      clear hK
      refine wpAnyH_ready (rs:=[6]) (by kernel_rfl) (by simp) ?_
      refine AllReadyH.cons rfl (fun K hK=>?_) AllReadyH.nil
      go_simp
      refine hK.out _ _ (HS4.out _ (HS5.out.alloc (by omega) _)) (fun hHeld=>?_)
      clear hK K
      refine wpAnyH_ready (rs:=[7]) (by kernel_rfl) (by simp) ?_
      refine AllReadyH.cons rfl (fun K hK=>?_) AllReadyH.nil
      go_simp
      have HFD:=zh (fnd_new (w:=w5) (fs:=[Tp.lkT (ol i),Tp.lkT tl]) (vs:=[.map (some lb),.map (some gb)]) (c:=2) (t1:=76) (t2:=34) (t3:=142) (HSM2.out.on HB25.out) rfl (fun j hj=>by
       match j,hj with
       | 0,_=>exact⟨lb,ln,rfl,HLM.out⟩
       | 1,_=>exact⟨gb,gn',rfl,HGM.out.on (HB25.out.block _ HGM.out.lt)⟩))
      refine(xM _ (.map (some ob)) (.slice (some ⟨w5.heap.size,0,none⟩) 2 2) ⟨_,rfl⟩ ⟨_,_,_,rfl⟩).mono ?_
      rintro e w7 ⟨rfl,hw7⟩
      have hb7:Below w5.heap.size w5 w7:=by rw[hw7];exact((zb _ _).alloc (by simp) _).alloc (by simp;omega) _
      have hfd:Fnd w7 (w5.heap.size+1) (fun k=>if k∈is then Sn k else none) [Tp.lkT (ol i),Tp.lkT tl]:=by rw[hw7];exact HFD.out
      have hsz57:=hb7.size
      have hsz7:(w5.alloc (.cells #[.map (some lb),.map (some gb)] 76)).heap.size=w5.heap.size+1:=by simp
      rw[hsz7]
      have HB7:Hid (Below w.heap.size w w7):=(HB0.out.trans (HB5.out.mono (by omega))).trans (hb7.mono (by have:=HB5.out.size;omega))
      have HB07:Hid (Below w0.heap.size w0 w7):=HB5.out.trans (hb7.mono HB5.out.size)
      have HS7:=zh (HS5.out.trans (hb7.mono hsz5))
      have HB27:Hid (Below w2.heap.size w2 w7):=HB25.out.trans (hb7.mono HB25.out.size)
      have HCS:=zh (HST.out w7 (w5.heap.size+1) HB7.out hfd)
      clear hw7 hfd hb7 HFD
      simp only [finderV]at HCS ⊢
      try go_frame
      refine hK.out _ _ (HS4.out _ HS7.out) (fun hHeld=>?_)
      clear hK K
      refine wpAnyH_ready (rs:=[8]) (by kernel_rfl) (by simp) ?_
      refine AllReadyH.cons rfl (fun K hK=>?_) AllReadyH.nil
      go_simp
      refine HCS.out.mono ?_
      intro e w8 hq
      obtain⟨hb8,hq⟩:=hq
      have HB08:Hid (Below w0.heap.size w0 w8):=HB07.out.trans (hb8.mono HB07.out.size)
      have hsz7':=HB07.out.size
      cases hsr:sr i with
      | some er =>
       rw[hsr]at hq
       have HR4:Hid (res=some (er.1,some er.2)):=by
        unfold Hid
        rw[HR3.out,zT (f:=fun i=>(Tp.twP (ol i) 0).or (sr i)) hlt HN.out (show (Tp.twP (ol i) 0).or (sr i)=some er by rw[HTL.out,hsr];rfl)]
        rfl
       obtain⟨ab,q1,rfl,q2,q3⟩:=hq.out
       exact jI (eb:=w.heap.size+1) rfl rfl (HEB.out w8 HB08.out) (HOUT.out w8 er ab HB08.out (by omega) q2 q3 HR4.out)
      | none =>
       rw[hsr]at hq
       simp only at hq
       subst hq
       have HB28:Hid (Below w2.heap.size w2 w8):=HB27.out.trans (hb8.mono HB27.out.size)
       have HN8:Hid (∀ j,j<i+1->(Tp.twP (ol j) 0).or (sr j)=none):=fun j hj=>by
        rcases Nat.lt_or_ge j i with q|q
        ·exact HN.out j q
        ·have:j=i:=by omega
         subst this
         rw[HTL.out,hsr]
         rfl
       have HS8:=zh (HS7.out.trans (hb8.mono HS7.out.size))
       clear hsr hb8 HCS
       go_frame
       refine hK.out _ _ (HS4.out _ HS8.out) (fun hHeld=>?_)
       clear hK K
       refine wpAnyH_done (by kernel_rfl) ?_ _
       clear hHeld
       go_wp2_with fail
       go_roundg (pn - (i+1))
       case measure=>omega
       case rel=>exact⟨i+1,by omega,rfl,by go_num,HB28,HN8⟩
    ·have hlt':¬(i:Int)<(pn:Int):=by omega
     have HFS:Hid ((List.range pn).findSome? (fun i=>(Tp.twP (ol i) 0).or (sr i))=none):=yz (fun j hj=>HN.out j (by omega))
     have HR4:Hid (res=Tp.up br):=by unfold Hid;rw[HR3.out,HFS.out];rfl
     have hsz3:=HB3.out.size
     have HS4:Hid (∀ W,Below wr.heap.size wr W->W.cell? ⟨w.heap.size,4,none⟩=some (.slice ba bn bc)):=fun W hW=>(zG ((hW.block _ (by omega)).trans ((HB3.out.block _ hs0).trans HBM.out))).2.2.2.2
     have k4:=HS4.out wr (Below.refl _ _)
     have hswr:w.heap.size<wr.heap.size:=by omega
     clear HFS
     go_upto_region 9 with fail
     refine wp_region_held_drew (S:=fun W=>W.cell? ⟨w.heap.size,4,none⟩=some (.slice ba bn bc)) (by kernel_rfl) (HS4.out _ ((Below.refl _ _).drew)) (fun hHeld=>?_)
     refine wpAnyH_take (i:=0) (v:=.pointer (some ⟨w.heap.size,4,none⟩)) rfl (by kernel_rfl) (by kernel_rfl) (by kernel_rfl) (fun c a w h=>jr (by decide) _ c a w h) (Or.inl ⟨by rfl,fun W hW=>by go_simp⟩) hHeld ?_
     go_frame
     refine wpAnyH_take (i:=1) (v:=.slice ba bn bc) rfl (by kernel_rfl) (by kernel_rfl) (by kernel_rfl) (fun c a w h=>jr (by decide) _ c a w h) (Or.inl ⟨by rfl,fun W hW=>by go_simp⟩) hHeld ?_
     go_frame
     refine wpAnyH_take (i:=2) (v:=.map (some ob)) rfl (by kernel_rfl) (by kernel_rfl) (by kernel_rfl) (fun c a w h=>jr (by decide) _ c a w h) (Or.inl ⟨by rfl,fun W hW=>by go_simp⟩) hHeld ?_
     go_frame
     refine wpAnyH_take (i:=3) (v:=.map (some gb)) rfl (by kernel_rfl) (by kernel_rfl) (by kernel_rfl) (fun c a w h=>jr (by decide) _ c a w h) (Or.inl ⟨by rfl,fun W hW=>by go_simp⟩) hHeld ?_
     go_frame
     refine wpAnyH_ready (rs:=[4]) (by kernel_rfl) (by simp) ?_
     refine AllReadyH.cons rfl (fun K hK=>?_) AllReadyH.nil
     go_simp
     refine hK.out _ _ (HS4.out _ ((zb _ _).drew)) (fun hHeld=>?_)
     clear hK K
     refine wpAnyH_ready (rs:=[5]) (by kernel_rfl) (by simp) ?_
     refine AllReadyH.cons rfl (fun K hK=>?_) AllReadyH.nil
     go_simp
     have HFD:=zh (fnd_new (w:=wr.drew) (fs:=[Tp.lkT tl]) (vs:=[.map (some gb)]) (c:=1) (t1:=76) (t2:=34) (t3:=142) (HSM2.out.on (HB.out.trans ((Below.refl _ _).drew))) rfl (fun j hj=>by
      match j,hj with
      | 0,_=>exact⟨gb,gn',rfl,HGM.out.on (HB.out.block _ HGM.out.lt)⟩))
     refine(xM _ (.map (some ob)) (.slice (some ⟨wr.heap.size,0,none⟩) 1 1) ⟨_,rfl⟩ ⟨_,_,_,rfl⟩).mono ?_
     rintro e w7 ⟨rfl,hw7⟩
     have hb7:Below wr.heap.size wr w7:=by rw[hw7];exact(((zb _ _).drew).alloc (by simp) _).alloc (by simp;omega) _
     have hfd:Fnd w7 (wr.heap.size+1) (fun k=>if k∈is then Sn k else none) [Tp.lkT tl]:=by rw[hw7];exact HFD.out
     have hsz57:=hb7.size
     have hsz7:(wr.alloc (.cells #[.map (some gb)] 76)).drew.heap.size=wr.heap.size+1:=by simp
     rw[hsz7]
     have HB07:Hid (Below w0.heap.size w0 w7):=HB3.out.trans (hb7.mono hsz3)
     have HB7:Hid (Below w.heap.size w w7):=HB0.out.trans (HB07.out.mono (by omega))
     have HS7:=zh hb7
     have HCS:=zh (HBD.out w7 (wr.heap.size+1) HB7.out hfd)
     clear hw7 hfd hb7 HFD
     simp only [finderV]at HCS ⊢
     try go_frame
     refine hK.out _ _ (HS4.out _ HS7.out) (fun hHeld=>?_)
     clear hK K
     refine wpAnyH_ready (rs:=[6]) (by kernel_rfl) (by simp) ?_
     refine AllReadyH.cons rfl (fun K hK=>?_) AllReadyH.nil
     go_simp
     refine HCS.out.mono ?_
     intro e w8 hq
     obtain⟨hb8,hq⟩:=hq
     have HB08:Hid (Below w0.heap.size w0 w8):=HB07.out.trans (hb8.mono HB07.out.size)
     have hsz7':=HB07.out.size
     cases hbr:br with
     | some er =>
      rw[hbr]at hq
      have HR5:Hid (res=some (er.1,some er.2)):=by unfold Hid;rw[HR4.out,hbr];rfl
      obtain⟨ab,q1,rfl,q2,q3⟩:=hq.out
      exact jI (eb:=w.heap.size+1) rfl rfl (HEB.out w8 HB08.out) (HOUT.out w8 er ab HB08.out (by omega) q2 q3 HR5.out)
     | none =>
      rw[hbr]at hq
      simp only at hq
      subst hq
      have HR5:Hid (res=none):=by unfold Hid;rw[HR4.out,hbr];rfl
      have HS8:=zh (HS7.out.trans (hb8.mono HS7.out.size))
      clear hbr hb8 HCS
      try go_frame
      refine hK.out _ _ (HS4.out _ HS8.out) (fun hHeld=>?_)
      clear hK K
      refine wpAnyH_done (by kernel_rfl) ?_ _
      clear hHeld
      have he:=HEB.out w8 HB08.out
      have ke:w8.cell? ⟨w.heap.size+1,0,none⟩=some .nilIface:=(za he).trans rfl
      have ze:w8.frozen? ⟨w.heap.size+1,0,none⟩=false:=zg he
      have hle8:w.heap.size+1<w8.heap.size:=zi he
      have HE8:=zh he
      clear he
      go_wp2_with fail
      obtain⟨wd,hwd⟩:∃ wd,wd=w8.setCell ⟨w.heap.size+1,0,none⟩ .nilIface:=⟨_,rfl⟩
      rw[<-hwd]
      have kd:wd.cell? ⟨w.heap.size+1,0,none⟩=some .nilIface:=by rw[hwd];exact(za (zw 0 .nilIface HE8.out)).trans rfl
      have hfin:CheckP w res (.returned .nilIface) wd:=by
       refine⟨by rw[hwd];exact zq (HB0.out.trans (HB08.out.mono (by omega))) (by omega) 0 _,?_⟩
       rw[HR5.out]
      clear hwd
      refine leaves_cons (f:=30) (args:=#[.pointer (some ⟨w.heap.size+1,0,none⟩)]) (by simp) (by simp[go_sem]) ?_
      refine(clate_idle ⟨w.heap.size+1,0,none⟩ wd).mono ?_
      rintro e u' w'' ⟨rfl,rfl,rfl⟩
      simp[Leaves,settle,results,Tryz.results9,go_sem,kd]
      exact hfin
end Go.Proofs.YtmocelfkmdpogaaGreatDoor
namespace Go.Proofs.YtmocelfkmdpogaaGreatDoor
open Go.RowKit
open Tp (Bs Th Sy Seen X S G Pr)
def olOf (m:Tp.M) (i:Nat):List Th:=match m.procs[i]? with
 | some p=>Tp.ownT p
 | none=>[]
def srOf (m:Tp.M) (Sn:Seen) (i:Nat):Option (Nat× Nat):=match m.procs[i]? with
 | some p=>(Tp.rs p.body).findSome? (Tp.judgeP (Tp.standV (Tp.others m Sn) [Tp.lkT (Tp.ownT p),Tp.lkT (Tp.things m)]))
 | none=>none
theorem jF {w:World}{D:Nat->Prop}{a:Option Addr}{c:Nat}{l:List Bs}(h:Row w D 9 1 (.slice a l.length c) l.length (strs l)) (i:Nat) (hi:i<l.length):∃ g,a=some ⟨g,0,none⟩/\g<w.heap.size/\w.cell? ⟨g,i,none⟩=some (.string (bs l[i])):=by
 obtain⟨g,cap,q1,_,q3,q4⟩:=yw h (by omega)
 cases q1
 refine⟨g,rfl,q3,(q4 i (by omega)).trans ?_⟩
 simp[strs,hi]
theorem xO {m:Tp.M}(hm:Tp.Sml m) {w:World}{ia ga pa ba:Option Addr}{ic gc pc bc:Nat}(h:MB w w.heap.size m ia ga pa ba ic gc pc bc) {sv:Value}{Sn:Seen}(hS:SeenV w sv Sn) :
  Calls Tryz.prog 9 #[.agg (mcells (bs m.name) (.slice ia m.imports.length ic) (.slice ga m.vars.length gc) (.slice pa m.procs.length pc) (.slice ba m.body.length bc)),sv] w (CheckP w (Tp.check m Sn)):=by
 have hsv:∃ so,sv=.map so:=by
  rcases hS with⟨q,_⟩|⟨sb,n,q,_⟩
  ·exact⟨_,q⟩
  ·exact⟨_,q⟩
 have hpp:∀ W,Below w.heap.size w W->∀ i (hi:i<m.procs.length),∃(g:Nat) (pa' va ba':Option Addr) (pc' vc bc':Nat) (bcs:List Value),pa=some ⟨g,0,none⟩/\g<w.heap.size/\(∀ j,j<6->W.cell? ⟨g,i * 6+j,none⟩=(pcells (bs m.procs[i].name) (m.procs[i].pos:Int) m.procs[i].seen (.slice pa' m.procs[i].params.length pc') (.slice va m.procs[i].vars.length vc) (.slice ba' m.procs[i].body.length bc')).toList[j]?) /\
   Row W (fun b=>b<w.heap.size) 9 1 (.slice pa' m.procs[i].params.length pc') m.procs[i].params.length (strs m.procs[i].params)/\Row W (fun b=>b<w.heap.size) 9 1 (.slice va m.procs[i].vars.length vc) m.procs[i].vars.length (strs m.procs[i].vars)/\RepS W (fun b=>b<w.heap.size) m.procs[i].body bcs/\OwnS W (fun b=>b<w.heap.size) (.slice ba' m.procs[i].body.length bc') m.procs[i].body.length bcs:=by
  intro W hW i hi
  obtain⟨pcs,p1,p2⟩:=(h.on hW).pr
  obtain⟨g,cap,q1,q2,q3,q4⟩:=yw p2 (by omega)
  cases q1
  obtain⟨pv,vv,bv,bcs',r1,r2,r3,r4,r5⟩:=jl m.procs pcs p1 i hi
  obtain⟨y3,c3,rfl⟩:=r2.shape
  obtain⟨y4,c4,rfl⟩:=r3.shape
  obtain⟨y5,c5,rfl⟩:=r5.shape
  exact⟨g,y3,y4,y5,c3,c4,c5,bcs',rfl,q2,fun j hj=>(q4 (i * 6+j) (by omega)).trans (r1 j hj),r2,r3,r4,r5⟩
 refine check_walk (is:=m.imports) (Sn:=Sn) (tl:=Tp.things m) (ol:=olOf m) (sr:=srOf m Sn) (br:=(Tp.rs m.body).findSome? (Tp.judgeP (Tp.standV (Tp.others m Sn) [Tp.lkT (Tp.things m)]))) hsv ?_ ?_ ?_ ?_ hm.pc ?_
 ·intro W hW
  refine vw (fun i hi=>?_) rfl hm.ic (hS.on hW)
  obtain⟨g,q1,q2,q3⟩:=jF (h.on hW).im i hi
  exact⟨g,m.imports[i],q1,q2,q3,hm.im _ (List.getElem_mem hi),List.getElem?_eq_getElem hi⟩
 ·intro W hW
  have hgl:=(h.on hW).gl
  refine uC (l:=Tp.things m) (fun i hi=>?_) (fun i hi=>?_) (by simp[Tp.things]) hm.gc hm.pc
  ·obtain⟨g,cap,q1,q2,q3,q4⟩:=yw hgl (by omega)
   cases q1
   have hc:=fun j (hj:j<4)=>(q4 (i * 4+j) (by omega)).trans (qJ m.vars i hi j hj)
   refine⟨g,m.vars[i].name,m.vars[i].pos,m.vars[i].len,m.vars[i].seen,rfl,q3,hc 0 (by omega),hc 1 (by omega),hc 2 (by omega),hc 3 (by omega),hm.g _ (List.getElem_mem hi),?_⟩
   unfold Tp.things
   rw[List.getElem?_append_left (by simpa using hi)]
   simp[hi,Tp.thG]
  ·obtain⟨g,y3,y4,y5,c3,c4,c5,bcs,q1,q2,q3,_⟩:=hpp W hW i hi
   refine⟨g,m.procs[i].name,m.procs[i].pos,m.procs[i].seen,y3,y4,y5,m.procs[i].params.length,m.procs[i].vars.length,m.procs[i].body.length,c3,c4,c5,q1,Nat.lt_of_lt_of_le q2 hW.size,q3 0 (by omega),q3 1 (by omega),q3 2 (by omega),q3 3 (by omega),q3 4 (by omega),q3 5 (by omega),(hm.p _ (List.getElem_mem hi)).1,?_⟩
   unfold Tp.things
   rw[List.getElem?_append_right (by simp)]
   simp[hi,Tp.thP]
 ·intro i hi
  obtain⟨g,y3,y4,y5,c3,c4,c5,bcs,q1,q2,q3,q4,q5,q6,q7⟩:=hpp w (Below.refl _ _) i hi
  have hmp:=hm.p _ (List.getElem_mem hi)
  have hol:olOf m i=Tp.ownT m.procs[i]:=by unfold olOf;rw[List.getElem?_eq_getElem hi]
  have hsr:srOf m Sn i=(Tp.rs m.procs[i].body).findSome? (Tp.judgeP (Tp.standV (Tp.others m Sn) [Tp.lkT (Tp.ownT m.procs[i]),Tp.lkT (Tp.things m)])):=by unfold srOf;rw[List.getElem?_eq_getElem hi]
  refine⟨g,m.procs[i].name,m.procs[i].pos,m.procs[i].seen,y3,y4,y5,m.procs[i].params.length,m.procs[i].vars.length,m.procs[i].body.length,c3,c4,c5,q1,q2,q3 0 (by omega),q3 1 (by omega),q3 2 (by omega),q3 3 (by omega),q3 4 (by omega),q3 5 (by omega),fun W hW=>?_,fun W b hW hF=>?_⟩
  ·rw[hol]
   have hk:∀ b,b<w.heap.size->b<w.heap.size->W.heap[b]?=w.heap[b]?/\b<w.heap.size:=fun b hi _=>⟨hW.block b hi,hi⟩
   refine qy (fun j hj=>?_) (fun j hj=>?_) (by simp[Tp.ownT,Tp.ownOf]) hmp.2.1 hmp.2.2.1
   ·obtain⟨g',a1,a2,a3⟩:=jF (q4.mono hk) j hj
    refine⟨g',m.procs[i].params[j],a1,a2,a3,hmp.2.2.2.1 _ (List.getElem_mem hj),?_⟩
    rw[Nat.zero_add]
    unfold Tp.ownT Tp.ownOf
    rw[List.map_append,List.getElem?_append_left (by simpa using hj)]
    simp[hj]
   ·obtain⟨g',a1,a2,a3⟩:=jF (q5.mono hk) j hj
    refine⟨g',m.procs[i].vars[j],a1,a2,a3,hmp.2.2.2.2.1 _ (List.getElem_mem hj),?_⟩
    unfold Tp.ownT Tp.ownOf
    rw[List.map_append,List.getElem?_append_right (by simp)]
    simp[hj]
  ·rw[hsr]
   rw[hol]at hF
   have hk:∀ b,b<w.heap.size->b<w.heap.size->W.heap[b]?=w.heap[b]?/\b<w.heap.size:=fun b hi _=>⟨hW.block b hi,hi⟩
   exact kV hF (by simp) _ _ zn hmp.2.2.2.2.2 W (fun b=>b<w.heap.size) _ bcs (Below.refl _ _) (q6.mono' hk) (q7.mono hk)
 ·intro W b hW hF
  obtain⟨bcs,b1,b2⟩:=(h.on hW).bd
  exact kV hF (by simp) _ _ zn hm.b W (fun b=>b<w.heap.size) _ bcs (Below.refl _ _) b1 b2
 ·rw[Tp.check_eq]
  congr 2
  unfold Tp.checkV
  congr 2
  rw[Tp.find_idx]
  congr 1
  funext i
  unfold olOf srOf
  cases m.procs[i]? with
  | none=>rw[Option.bind_none,Tp.twP];rfl
  | some p=>rfl
theorem MkC.below {w w':World}{B:Nat}(h:MkC w) (k:Below B w w') (hB:3<B):MkC w':=fun i hi=>(k.cell (p:=⟨3,i,none⟩) hB).trans (h i hi)
structure VarsC (B:Nat) (w:World):Prop where
 mks:Mk w
 lv:Lv w
 mc:MkC w
 m:0<B
 l:2<B
 c:3<B
theorem VarsC.on {B:Nat}{w w':World}(h:VarsC B w) (k:Below B w w'):VarsC B w':=⟨h.mks.below k h.m,h.lv.below k h.l,h.mc.below k h.c,h.m,h.l,h.c⟩
theorem VarsC.on' {B:Nat}{w w':World}(h:VarsC B w) (hB:B<=w.heap.size) (k:Below w.heap.size w w'):VarsC B w':=h.on (k.mono hB)
structure StrsAt (w:World) (ns:List (List UInt8)) (a:Option Addr):Prop where
 c:∀ i (h:i<ns.length),∃ b o,a=some ⟨b,o,none⟩/\b<w.heap.size/\w.cell? ⟨b,o+i,none⟩=some (.string (bs ns[i]))
theorem StrsAt.on {w w':World}{ns:List (List UInt8)}{a:Option Addr}(h:StrsAt w ns a) (k:Below w.heap.size w w'):StrsAt w' ns a :=
 ⟨fun i hi=>by obtain⟨b,o,h1,h2,h3⟩:=h.c i hi;exact⟨b,o,h1,Nat.lt_of_lt_of_le h2 k.size,(k.cell (p:=⟨b,o+i,none⟩) h2).trans h3⟩⟩
end Go.Proofs.YtmocelfkmdpogaaGreatDoor
namespace Go.Proofs.YtmocelfkmdpogaaGreatDoor
open Go.RowKit Go.Sort
open Tp (Sy)
theorem conv_buf {kk:Nat->Prop}{w:World}{B:Nat}{v:Value}{l:List UInt8}(h:Buf kk w B v l):(convert 98 9 v).run Tryz.prog w=.ok (.string (bs l)) w:=by
 rcases h.own.2 with⟨rfl,h2⟩|⟨g,cap,cur,rfl,h2,h3,h4,h5,h6,h7⟩
 ·have e:l=[]:=List.eq_nil_of_length_eq_zero h2
  subst e
  rw[run_convert_bytes_string w 98 9 5 none 0 0 Tryz.underlying98 Tryz.underlying5 Tryz.underlying9]
  rfl
 ·refine run_convert_bytes_back w 98 9 5 ⟨g,0,none⟩ cap l Tryz.underlying98 Tryz.underlying5 Tryz.underlying9 (fun j hj=>?_)
  have:=h.own.cells (g:=g) rfl j (.int .u8 (l[j].toNat:Int)) (by rw[u8s,List.getElem?_map,List.getElem?_eq_getElem hj];rfl)
  simpa using this
theorem lineOf_len (s:Sy) (h:s.2.1<100/\s.2.2<100/\-1<=s.2.2/\s.1.length<=100):(Tp.lineOf s).length<=200:=by
 have hd:∀ n,n<100->(Tp.dec n).length<=2:=by
  intro n hn
  rw[Tp.dec]
  split
  ·simp
  ·rw[Tp.dec_d (show n / 10<10 by omega)];simp
 unfold Tp.lineOf
 split
 ·have:=hd s.2.2.toNat (by omega)
  simp[Tp.wordsL,Tp.wProc];omega
 ·split
  ·have:=hd s.2.1 h.1
   simp[Tp.wordsL,Tp.wArr];omega
  ·simp[Tp.wordsL,Tp.wInt];omega
theorem need_at (l:List Sy) (n:List UInt8):(∃(k:Nat) (hk:k<l.length),fidx l n=(k:Int)/\Tp.needS l n=Tp.lineOf l[k])\/fidx l n=-1/\Tp.needS l n=Tp.wordsL [110,111,110,101] [n]:=by
 unfold fidx Tp.needS Tp.findS
 cases h:l.findIdx? (fun s=>s.1 == n) with
 | some k =>
  left
  have h':=h
  rw[List.findIdx?_eq_some_iff_getElem]at h'
  obtain⟨hk,h1,h2⟩:=h'
  refine⟨k,hk,rfl,?_⟩
  have:l.find? (fun s=>s.1 == n)=some l[k]:=by
   rw[List.find?_eq_some_iff_getElem]
   exact⟨by simpa using h1,k,hk,rfl,fun j hj=>by simpa using h2 j hj⟩
  rw[this]
 | none =>
  right
  have:l.find? (fun s=>s.1 == n)=none:=by
   rw[List.find?_eq_none]
   rw[List.findIdx?_eq_none_iff]at h
   intro x hx
   simpa using h x hx
  rw[this]
  exact⟨rfl,rfl⟩
theorem need_len (l:List Sy) (n:List UInt8) (h:AllSmall l) (hn:n.length<=100):(Tp.needS l n).length<=200:=by
 rcases need_at l n with⟨k,hk,_,e⟩|⟨_,e⟩
 ·rw[e];exact lineOf_len _ (h _ (List.getElem_mem hk))
 ·rw[e];simp[Tp.wordsL];omega
theorem jQ (l:List Sy) (ns:List (List UInt8)) (h:AllSmall l) (hn:∀ n∈ns,n.length<=100):(Tp.needsS l ns).length<=200 * ns.length:=by
 induction ns with
 | nil=>simp[Tp.needsS]
 | cons n ns ih =>
  have h1:=need_len l n h (hn n (by simp))
  have h2:=ih (fun x hx=>hn x (by simp[hx]))
  simp only [Tp.needsS,List.map_cons,List.flatten_cons,List.length_append,List.length_cons]at h2 ⊢
  omega
theorem needs_post {w:World}{B:Nat}{v:Value}{l:List Sy}(h:SL w B v l) (hs:AllSmall l) (hn:l.length<=1000) {ns:List (List UInt8)}{na:Option Addr}{nc:Nat}(hns:StrsAt w ns na) (hnl:∀ n∈ns,n.length<=100) (hnn:ns.length<=9000) :
  Calls Tryz.prog 99 #[v,.slice na ns.length nc] w fun e w'=>e=.returned (.string (bs (Tp.needsS l ns)))/\Below w.heap.size w w':=by
 obtain⟨a,c,rfl⟩:=h.len
 have hnn':(ns.length:Int)<=9000:=by omega
 have hln':(l.length:Int)<=1000:=by omega
 have HSL:=zh h
 have HS:=zh hs
 have HNS:=zh hns
 have HNL:=zh hnl
 have HF:Hid (∀ W,Below w.heap.size w W->∀ n,Calls Tryz.prog 106 #[.slice a l.length c,.string (bs n)] W fun e w'=>e=.returned (.int .i64 (fidx l n))/\Below W.heap.size W w'):=fun W hW n=>uG (h.on hW) hn n
 obtain⟨nn,hnq⟩:∃ nn,nn=ns.length:=⟨_,rfl⟩
 rw[<-hnq]at hnn' ⊢
 have HNQ:=zh hnq
 obtain⟨ln,hlq⟩:∃ ln,ln=l.length:=⟨_,rfl⟩
 rw[<-hlq]at hln' HF ⊢
 have HLQ:=zh hlq
 clear h hs hns hnl hnq hlq
 go_enter Tryz.func99,Tryz.ntmps99
 go_wp2_with fail
 go_loopg [5,11] nn (fun k v vi wr=>∃ i:Nat,i<=nn/\k=nn - i/\vi=.int .i64 (i:Int)/\Hid (Buf (fun _=>False) wr w.heap.size v (Tp.needsS l (ns.take i)))/\Hid (Bw (fun _=>False) w.heap.size w wr))
 case atStart=>exact⟨0,by omega,by omega,rfl,Buf.nil _ _ zn (fun k hk=>hk.elim),Bw.refl _ _⟩
 case round =>
  obtain⟨i,hid,hk,rfl,HB,HW⟩:=hrel
  by_cases hlt:i<nn
  ·have hlt':(i:Int)<(nn:Int):=by omega
   have hia:i<ns.length:=by have:=HNQ.out;omega
   obtain⟨b,o,rfl,hbl,hcell⟩:=HNS.out.c i hia
   have kc:wr.cell? ⟨b,o+i,none⟩=some (.string (bs ns[i])):=(HW.out.cell (p:=⟨b,o+i,none⟩) hbl).trans hcell
   have hlgr:b<wr.heap.size:=by have:=HW.out.size;omega
   have e1:Tp.needsS l (ns.take (i+1))=Tp.needsS l (ns.take i)++Tp.needS l ns[i]:=by
    unfold Tp.needsS
    rw[List.take_succ_eq_append_getElem hia,List.map_append,List.flatten_append];simp
   have hpl:=jQ l (ns.take (i+1)) HS.out (fun x hx=>HNL.out x (List.mem_of_mem_take hx))
   have hlen:(Tp.needsS l (ns.take i)++Tp.needS l ns[i]).length<=1000000000:=by rw[<-e1];simp only [List.length_take]at hpl;omega
   obtain⟨m,hm⟩:∃ m,m=Tp.needsS l (ns.take i):=⟨_,rfl⟩
   obtain⟨m2,hm2⟩:∃ m2,m2=Tp.needsS l (ns.take (i+1)):=⟨_,rfl⟩
   have hbuf:=HB.out
   rw[<-hm]at hbuf hlen e1
   rw[<-hm2]at e1
   obtain⟨a1,c1,hv⟩:=zl hbuf.1
   subst hv
   have HFI:=zh (HF.out wr HW.out.toBelow ns[i])
   have HBF:=zh hbuf
   have HM2:=zh hm2
   have HE1:=zh e1
   have HLN:=zh hlen
   clear hbuf HB hcell hpl hm hm2 e1 hlen
   generalize ns[i]=nm at *
   go_wp2_with fail
   refine HFI.out.mono ?_
   rintro e w3 ⟨rfl,h3⟩
   have HB3:=zh (HBF.out.below h3)
   have HW3:=zh (HW.out.trans (Bw.of h3 HBF.out.2))
   clear h3 kc
   rcases need_at l nm with⟨k,hkl,hfi,hne⟩|⟨hfi,hne⟩
   ·obtain⟨g,hag,_,hgl,hc3⟩:=HSL.out.cell k hkl
    subst hag
    have hc:=fun j (hj:j<3)=>(HW3.out.cell (p:=⟨g,k * 3+j,none⟩) hgl).trans (hc3 j hj)
    have kc0:w3.cell? ⟨g,k * 3,none⟩=some (.string (bs l[k].1)):=hc 0 (by omega)
    have kc1:w3.cell? ⟨g,k * 3+1,none⟩=some (.int .i64 (l[k].2.1:Int)):=hc 1 (by omega)
    have kc2:w3.cell? ⟨g,k * 3+2,none⟩=some (.int .i64 l[k].2.2):=hc 2 (by omega)
    have hlg3:g<w3.heap.size:=by have:=HW3.out.size;omega
    have hsm:=HS.out l[k] (List.getElem_mem hkl)
    have hkl':(k:Int)<(ln:Int):=by have:=HLQ.out;omega
    have hcall:=qX l[k] hsm.1 hsm.2.1 hsm.2.2.1 HB3.out (by rw[<-hne];exact HLN.out)
    rw[<-hne,<-HE1.out]at hcall
    have HC:Hid (Calls Tryz.prog 153 #[.slice a1 m.length c1,.agg #[.string (bs l[k].1),.int .i64 (l[k].2.1:Int),.int .i64 l[k].2.2]] w3 (Wrote (fun _=>False) w.heap.size w3 m2)):=hcall
    clear hcall hne hc hc3 hsm
    generalize l[k].1=x0 at *
    generalize l[k].2.1=x1 at *
    generalize l[k].2.2=x2 at *
    rw[hfi]
    go_wp2_with fail
    refine HC.out.mono ?_
    rintro e w4 ⟨v4,rfl,hb4,hw4⟩
    have HB4:Hid (Buf (fun _=>False) w4 w.heap.size v4 (Tp.needsS l (ns.take (i+1)))):=by rw[<-HM2.out];exact hb4
    have HW4:=zh (HW3.out.trans hw4)
    clear hb4 hw4
    go_wp2_with fail
    go_roundg (nn - (i+1))
    case measure=>omega
    case rel=>exact⟨i+1,by omega,rfl,by go_num,HB4,HW4⟩
   ·have hcall:=yL (HB3.out.below ((Below.refl _ _).alloc zn (.cells #[.string (bs nm)] 9))) [110,111,110,101] [nm] w3.heap.size 1 (zk _ _) (by simp) (by rw[<-hne];exact HLN.out)
    rw[<-hne,<-HE1.out]at hcall
    have HC:Hid (Calls Tryz.prog 154 #[.slice a1 m.length c1,.string ⟨#[110,111,110,101]⟩,.slice (some ⟨w3.heap.size,0,none⟩) 1 1] (w3.alloc (.cells #[.string (bs nm)] 9)) (Wrote (fun _=>False) w.heap.size (w3.alloc (.cells #[.string (bs nm)] 9)) m2)):=hcall
    have HWA:=zh (HW3.out.trans (Bw.of ((Below.refl _ _).alloc zn (.cells #[.string (bs nm)] 9)) HB3.out.2))
    clear hcall hne
    rw[hfi]
    go_wp2_with fail
    refine HC.out.mono ?_
    rintro e w4 ⟨v4,rfl,hb4,hw4⟩
    have HB4:Hid (Buf (fun _=>False) w4 w.heap.size v4 (Tp.needsS l (ns.take (i+1)))):=by rw[<-HM2.out];exact hb4
    have HW4:=zh (HWA.out.trans hw4)
    clear hb4 hw4
    go_wp2_with fail
    go_roundg (nn - (i+1))
    case measure=>omega
    case rel=>exact⟨i+1,by omega,rfl,by go_num,HB4,HW4⟩
  ·have hlt':¬(i:Int)<(nn:Int):=by omega
   have e:i=ns.length:=by have:=HNQ.out;omega
   have hbuf:=HB.out
   rw[e,List.take_length]at hbuf
   have hcv:=conv_buf hbuf
   obtain⟨a1,c1,hv⟩:=zl hbuf.1
   subst hv
   have HBB:=zh HW.out.toBelow
   clear hbuf HB HW
   go_wp2_with fail
   go_ret
   exact⟨rfl,HBB.out⟩
end Go.Proofs.YtmocelfkmdpogaaGreatDoor
