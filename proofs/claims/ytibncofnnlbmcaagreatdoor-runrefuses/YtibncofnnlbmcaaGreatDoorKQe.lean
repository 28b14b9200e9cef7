import Derived.Test.YtibncofnnlbmcaaGreatDoorKQd
import Derived.Test.YtibncofnnlbmcaaGreatDoorKMd
import Derived.Laws.MakeOwn
set_option maxRecDepth 100000
set_option maxHeartbeats 4000000
namespace Go.Proofs.YtibncofnnlbmcaaGreatDoor
open Go.RowKit Go.Maps
open Tp (Bs X S G Pr Pt Rs Rr Own)
def GoP (c:Cx) (k sb:Nat) (ob:Option Nat) (lo:Lo) (names:List Bs) (w:World) (s:Rs) (r:Rr (Own× Option Int)) (e:Ending) (w':World):Prop:=match r with
 | .ok (own',none) s'=>e=.returned (.tuple #[])/\GS c w' s' k/\Kp c (oY ob) w w'/\s'.left<=s.left/\Sc c w' sb ob lo own' names s'.left
 | .ok (_,some v) s'=>thrE toldT v e/\GS c w' s' k/\Kp c (oY ob) w w'/\s'.left<=s.left/\Tp.I64 v
 | .stop way s'=>thrE endT (way:Int) e/\(∃ k',GS c w' s' k')/\Kp c (oY ob) w w'
 | .gas=>True
def GoC (c:Cx) (g:Nat):Prop:=∀(k:Nat) (lo:Lo) (own:Own) (names:List Bs) (l:List S) (v:Value) (w:World) (s:Rs) (sb:Nat) (ob:Option Nat),
 Ss c lo names l v->GS c w s k->Sc c w sb ob lo own names s.left->Tp.goS g k lo.m.name own l s≠.gas ->
 Calls Tryz.prog 88 #[.pointer (some ⟨sb,0,none⟩),v] w (GoP c k sb ob lo names w s (Tp.goS g k lo.m.name own l s))
theorem jF (l:Olds):l.1.dropWhile (fun x=>!x.goexit)=[]:=by
 obtain⟨l,h⟩:=l
 show l.dropWhile _=[]
 induction l with
 | nil=>rfl
 | cons x t ih =>
  rw[List.dropWhile_cons,h x (by simp)]
  exact ih (fun y hy=>h y (by simp[hy]))
theorem GS.setO {c:Cx}{w:World}{s:Rs}{k b j:Nat}{v:Value}(h:GS c w s k) (ok:CxOk c) (hb:c.gb<b) (ho:¬OutB c w b):GS c (w.setCell ⟨b,j,none⟩ v) s k :=
 h.on ok (zx _ (by omega)) (fun i _ hi=>zx i (by
  rcases hi with q|q
  ·omega
  ·exact fun e=>ho (e ▸ q)))
theorem body_all {c:Cx}{g:Nat}(ok:CxOk c) (hG:GoC c g):BodyC c g:=by
 intro k lo own names l v w s sb ob hss h hs hn
 have hmf:=zm
 obtain⟨cs,hr1,hr2⟩:=hss.rep
 obtain⟨va,vc,rfl⟩:=hr2.shape
 have hgl:=h.lt
 obtain⟨w1,hw1⟩:∃ w1,w1=w.alloc (.cells #[.int .i64 0] 2):=⟨_,rfl⟩
 have hb1:Below w.heap.size w w1:=by rw[hw1];exact zb _ _
 have hnb:w1.heap[w.heap.size]?=some (.cells #[.int .i64 0] 2 (0,0)):=by rw[hw1];exact zo _ _
 have hs1:w.heap.size<w1.heap.size:=zf hnb
 have hg1:=h.below ok hb1
 have hno1:¬OutB c w1 w.heap.size:=fun hq=>by
  have:=h.outlt ((yr (hb1.block _ hgl) _).1 hq);omega
 have HC:=zh (hG k lo own names l _ w1 s sb ob hss hg1 (hs.below ok hb1 hgl) hn)
 have hobn:ob≠some w.heap.size:=fun e=>by
  have ho:=hs.om
  rw[e]at ho
  have:=ho.2.2.2
  obtain⟨n,_,hm⟩:=this
  have:=hm.lt
  omega
 have HNB:Hid (∀ W,Kp c (oY ob) w1 W->W.heap[w.heap.size]?=some (.cells #[.int .i64 0] 2 (0,0))/\¬OutB c W w.heap.size):=fun W hK=>by
  refine⟨(hK.block _ hs1 (by omega) (fun q=>by have:=ok.Vlt _ q;omega) hno1 hobn).trans hnb,fun q=>?_⟩
  rcases hK.out _ q with z|z
  ·exact hno1 z
  ·omega
 have HKB:Hid (∀ W,Kp c (oY ob) w1 W->Kp c (oY ob) w W):=fun W hK=>(Kp.below hb1 hgl).trans hK
 have HKS:Hid (∀ W s' k' u,GS c W s' k'->Kp c (oY ob) w W->¬OutB c W w.heap.size->Kp c (oY ob) w (W.setCell ⟨w.heap.size,0,none⟩ u)/\GS c (W.setCell ⟨w.heap.size,0,none⟩ u) s' k'):=fun W s' k' u a1 a2 a3=>by
  refine⟨?_,a1.setO ok (by omega) a3⟩
  have e:=(Below.refl 0 W).setCell (p:=⟨w.heap.size,0,none⟩) (Nat.zero_le _) u
  refine⟨e.os.trans a2.os,e.tape.trans a2.tape,e.output.trans a2.output,by simpa using a2.size,fun b q1 q2 q3 q4 q5=>(zx b (by omega)).trans (a2.block b q1 q2 q3 q4 q5),fun b hb=>a2.out b ((yr (zx _ (by omega)) b).1 hb)⟩
 generalize Tp.goS g k lo.m.name own l s=r at *
 clear h hs hss hr1 hr2 hb1 hnb hg1 hno1 hobn hG ok
 generalize l.length=ln at *
 cases r with
 | gas=>exact absurd rfl hn
 | stop way s' =>
  clear hn
  go_enter_defers Tryz.func43,Tryz.ntmps43
  go_upto_region 2 with fail
  rw[<-hw1]
  clear hw1
  go_wp2_with fail
  refine HC.out.mono ?_
  rintro e w2 ⟨⟨older,rfl⟩,hg2,hk2⟩
  have HG2:=zh hg2
  have HK2:=zh hk2
  clear hg2 hk2
  go_wp2_with fail
  refine leaves_cons (f:=87) (args:=#[.pointer (some ⟨w.heap.size,0,none⟩)]) (by simp) (by simp[go_sem]) ?_
  refine(blate_end w.heap.size (way:Int) older.1 w2).mono ?_
  rintro e u' w'' ⟨rfl,rfl,rfl⟩
  simp only [Leaves,raised]
  exact⟨⟨⟨_,fun x hx=>by
   rcases List.mem_cons.1 hx with q|q
   ·rw[q]
   ·exact older.2 x q⟩,rfl⟩,HG2.out,HKB.out _ HK2.out⟩
 | ok r1 s' =>
  obtain⟨own',ro⟩:=r1
  clear hn
  cases ro with
  | some u =>
   go_enter_defers Tryz.func43,Tryz.ntmps43
   go_upto_region 2 with fail
   rw[<-hw1]
   clear hw1
   go_wp2_with fail
   refine HC.out.mono ?_
   rintro e w2 ⟨⟨older,rfl⟩,hg2,hk2,hl2,hi2⟩
   obtain⟨hnb2,hno2⟩:=HNB.out w2 hk2
   have hk3:=HKB.out w2 hk2
   have hfin:=HKS.out w2 s' k (.int .i64 u) hg2 hk3 hno2
   have HF:=zh hfin
   have HL2:=zh hl2
   have HI2:=zh hi2
   have HN2:=zh hnb2
   clear hg2 hk2 hl2 hi2 hnb2 hno2 hk3 hfin
   go_wp2_with fail
   refine leaves_cons (f:=87) (args:=#[.pointer (some ⟨w.heap.size,0,none⟩)]) (by simp) (by simp[go_sem]) ?_
   refine(blate_told w.heap.size u older.1 w2 ((za HN2.out).trans rfl) (zi HN2.out)).mono ?_
   rintro e u' w'' ⟨rfl,rfl,hw⟩
   have kc:w''.cell? ⟨w.heap.size,0,none⟩=some (.int .i64 u):=by rw[hw];exact(za (zu 0 _ HN2.out)).trans rfl
   have hd:=jF older
   have hfin:BodyP c k ob w s (.ok (own',some u) s') (.returned (.int .i64 u)) w'':=by rw[hw];exact⟨rfl,HF.out.2,HF.out.1,HL2.out,HI2.out⟩
   clear hw
   simp[Leaves,settle,hd,results,Tryz.results43,go_sem,kc]
   exact hfin
  | none =>
   go_enter_defers Tryz.func43,Tryz.ntmps43
   go_upto_region 2 with fail
   rw[<-hw1]
   clear hw1
   go_wp2_with fail
   refine HC.out.mono ?_
   rintro e w2 ⟨rfl,hg2,hk2,hl2,_⟩
   obtain⟨hnb2,hno2⟩:=HNB.out w2 hk2
   have hk3:=HKB.out w2 hk2
   have hfin:=HKS.out w2 s' k (.int .i64 0) hg2 hk3 hno2
   have HF:=zh hfin
   have HL2:=zh hl2
   have HN2:=zh hnb2
   have kc:w2.cell? ⟨w.heap.size,0,none⟩=some (.int .i64 0):=(za hnb2).trans rfl
   have kz:w2.frozen? ⟨w.heap.size,0,none⟩=false:=zi hnb2
   have hwl:w.heap.size<w2.heap.size:=zf hnb2
   clear hg2 hk2 hl2 hnb2 hno2 hk3 hfin
   go_wp2_with fail
   refine leaves_cons (f:=87) (args:=#[.pointer (some ⟨w.heap.size,0,none⟩)]) (by simp) (by simp[go_sem]) ?_
   refine(blate_idle w.heap.size _).mono ?_
   rintro e u' w'' ⟨rfl,rfl,hw⟩
   have kc:w''.cell? ⟨w.heap.size,0,none⟩=some (.int .i64 0):=by rw[hw];exact(za (zu 0 _ HN2.out)).trans rfl
   have hfin:BodyP c k ob w s (.ok (own',none) s') (.returned (.int .i64 0)) w'':=by rw[hw];exact⟨rfl,HF.out.2,HF.out.1,HL2.out,(by decide:Tp.I64 0)⟩
   clear hw
   simp[Leaves,settle,results,Tryz.results43,go_sem,kc]
   exact hfin
theorem madeZ (n:Nat):madeCells (Value.cells (.int .i64 0)) n=(ints (List.replicate n 0)).toArray:=by
 apply Array.ext
 ·simp[madeCells,ints]
 ·intro i h1 h2
  simp[madeCells,ints,Value.cells]
  rw[Nat.mod_one]
  rfl
theorem vd (n:Nat) (hn:n<=100000) (w:World):(Instr.makeSlice 29 (.int .i64 (n:Int)) (.int .i64 (n:Int))).run Tryz.prog w=.ok (.slice (some ⟨w.heap.size,0,none⟩) n n) (w.alloc (.cells (ints (List.replicate n 0)).toArray 2)):=by
 obtain⟨i0,hi,hz0,hz1,hz2⟩:=info_parts Tryz.infoInt64
 have h:=run_make (P:=Tryz.prog) w 29 2 i0 (.int .i64 0) Tryz.underlying29 hi hz0 .i64 .i64 (n:Int) (n:Int) (by omega) (by omega) (by rw[hz2];omega) (by omega)
 rw[h,hz1,<-madeZ]
 simp
def preR (vs:List Int) (r:Rr (List Int)):Rr (List Int):=match r with
 | .ok l s=>.ok (vs++l) s
 | .stop way s=>.stop way s
 | .gas=>.gas
theorem preR_nil (r:Rr (List Int)):preR [] r=r:=by cases r <;> rfl
theorem evs_step {g k:Nat}{m:Bs}{own:Own}{y:X}{t:List X}{s:Rs}{vs:List Int}:preR vs (Tp.evs (g+1) k m own (y :: t) s)=match Tp.evX g k m own [y] s with
  | .ok v s'=>preR (vs++[v]) (Tp.evs g k m own t s')
  | .stop way s'=>.stop way s'
  | .gas=>.gas:=by
 rw[Tp.evs]
 unfold Tp.Ru.bind preR
 cases Tp.evX g k m own [y] s with
 | ok v s' =>
  simp only
  cases Tp.evs g k m own t s' with
  | ok l s2=>simp[Tp.Ru.pure]
  | stop way s2=>rfl
  | gas=>rfl
 | stop way s'=>rfl
 | gas=>rfl
def appR (g k:Nat) (M nm:Bs) (r:Rr (List Int)):Rr Int:=match r with
 | .ok vs s'=>(match (Tp.partOf s'.w M).bind fun p=>p.m.procs.find? fun q=>q.name == nm with
  | none=>.ok 0 s'
  | some p=>Tp.callP g k M p vs s')
 | .stop way s'=>.stop way s'
 | .gas=>.gas
theorem evX_app (g k:Nat) (m:Bs) (own:Own) (pos n:Nat) (md nm op:Bs) (le ri ar:List X) (s:Rs):Tp.evX (g+1) k m own [⟨6,pos,n,md,nm,op,le,ri,ar⟩] s=appR g k (if md=[] then m else md) nm (Tp.evs g k m own ar s):=by
 rw[Tp.evX]
 show (Tp.Ru.bind _ _) s=_
 unfold Tp.Ru.bind appR
 cases Tp.evs g k m own ar s with
 | gas=>rfl
 | stop way s'=>rfl
 | ok vs s' =>
  simp only [Tp.procOf]
  cases ((Tp.partOf s'.w (if md=[] then m else md)).bind fun p=>p.m.procs.find? fun q=>q.name == nm) <;> rfl
theorem Kp.setNew {c:Cx}{w W:World}{b j:Nat}{u:Value}(h:Kp c nY w W) (hb:w.heap.size<=b) (hg:b≠c.gb):Kp c nY w (W.setCell ⟨b,j,none⟩ u):=by
 have e:=(Below.refl 0 W).setCell (p:=⟨b,j,none⟩) (Nat.zero_le _) u
 exact⟨e.os.trans h.os,e.tape.trans h.tape,e.output.trans h.output,by simpa using h.size,fun i q1 q2 q3 q4 q5=>(zx i (by omega)).trans (h.block i q1 q2 q3 q4 q5),fun i hi=>h.out i ((yr (zx _ (fun e=>hg e.symm)) i).1 hi)⟩
theorem ints_set {vs:List Int}{n i:Nat}{v:Int}(h:vs.length=i) (hi:i<n):(ints (vs++List.replicate (n - i) 0)).toArray.setIfInBounds i (.int .i64 v)=(ints ((vs++[v])++List.replicate (n - (i+1)) 0)).toArray:=by
 apply Array.toList_inj.1
 simp only [Array.toList_setIfInBounds,ints,List.map_append]
 obtain⟨d,hd⟩:∃ d,n - i=d+1:=⟨n - i - 1,by omega⟩
 have hd2:n - (i+1)=d:=by omega
 rw[hd,hd2,List.set_append_right _ _ (by simp;omega)]
 simp[h,List.replicate_succ]
theorem rx_mem {l:List X}:∀ {y:X},y∈l->∀ r∈Tp.rx [y],r∈Tp.rx l:=by
 induction l with
 | nil=>intro y hy;cases hy
 | cons x t ih =>
  intro y hy r hr
  rw[kT]
  rcases List.mem_cons.1 hy with e|e
  ·rw[<-e];exact List.mem_append_left _ hr
  ·exact List.mem_append_right _ (ih e r hr)
theorem apply_all {c:Cx}{g:Nat}(ok:CxOk c) (hE:∀ n,n<g->EvC c n) (hC:CallC c g) {k:Nat}{lo:Lo}{own:Own}{names:List Bs}{x:Nat}{w:World}{s:Rs}{sb pos n:Nat}{ob:Option Nat}{md nm op:Bs}{le ri ar:List X}(hx:Ex c lo names [⟨6,pos,n,md,nm,op,le,ri,ar⟩] x) (h:GS c w s k) (hs:Sc c w sb ob lo own names s.left) {res:Rr Int}(hres:res=appR g k (if md=[] then lo.m.name else md) nm (Tp.evs g k lo.m.name own ar s)) (hn:res≠.gas) :
  Calls Tryz.prog 176 #[.pointer (some ⟨sb,0,none⟩),.pointer (some ⟨x,0,none⟩)] w (EvP c k w s res):=by
 have hf:=hx.fit ⟨6,pos,md,nm,ar.length⟩ (by rw[Tp.rx];simp)
 obtain⟨m',p,q2,q3,q4⟩:=hf.p6 rfl
 simp only at q2 q3 q4
 obtain⟨lo',hl',hm',hof,hnm'⟩:=atM_of ok hs.mem q2
 rw[<-hm']at q3
 obtain⟨hml,hnl⟩:=wx_okr hx.wx (by omega)
 have hpm:p∈lo'.m.procs:=List.mem_of_find?_eq_some q3
 have har:ar.length<=10:=by have:=((ok.lo lo' hl').fit.wm.p p hpm).c;omega
 have hw:=hx.wx
 rw[Tp.WX]at hw
 have hwa:Tp.WX ar:=by
  rcases hw.1 with q|q|q|q|q|q
  ·exact absurd q.1 (by decide)
  ·exact absurd q.1 (by decide)
  ·exact absurd q.1 (by decide)
  ·exact absurd q.1 (by decide)
  ·exact absurd q.1 (by decide)
  ·exact q.2.2.2.2.2.2
 obtain⟨av,ls,rs,gs,hD,hb,_,_,_,_,rg,hav⟩:=hx.blk
 have hgl:=h.lt
 have hlen:=RepL.len ar gs rg
 obtain⟨ga,gc,rfl,HGA⟩:∃ ga gc,av=.slice ga ar.length gc/\Hid (∀ i,∀ hi:i<ar.length,∃ gb' yb,ga=some ⟨gb',0,none⟩/\c.D gb'/\c.w0.cell? ⟨gb',i,none⟩=some (.pointer (some ⟨yb,0,none⟩))/\Ex c lo names [ar[i]] yb):=by
  rcases hav with⟨e1,e2⟩|⟨gb',cap,cur,e1,e2,e3,e4,e5,e6,e7⟩
  ·subst e1
   rw[List.length_nil]at hlen
   exact⟨none,0,by rw[e2,<-hlen],fun i hi=>by omega⟩
  ·refine⟨some ⟨gb',0,none⟩,cap,by rw[e1,hlen],fun i hi=>?_⟩
   obtain⟨yb,y1,y2⟩:=RepL.get ar gs rg i hi
   refine⟨gb',yb,rfl,e2,?_,⟨y2,Tp.wx_mem hwa _ (List.getElem_mem hi),fun r hr=>hx.fit r ?_⟩⟩
   ·rw[za e3,<-Array.getElem?_toList,<-y1,<-e7,List.getElem?_take_of_lt (by omega)]
   ·rw[Tp.rx]
    have:=rx_mem (List.getElem_mem hi) r hr
    simp[this]
 have hb1:=(h.st x hD).trans hb
 have hxl:=zf hb1
 have k8:w.cell? ⟨x,8,none⟩=some (.slice ga ar.length gc):=(za hb1).trans rfl
 have hmk:=vd ar.length (by omega)
 obtain⟨w1,hw1⟩:∃ w1,w1=w.alloc (.cells (ints (List.replicate ar.length 0)).toArray 2):=⟨_,rfl⟩
 have hbw1:Below w.heap.size w w1:=by rw[hw1];exact zb _ _
 have hab1:w1.heap[w.heap.size]?=some (.cells (ints ([]++List.replicate (ar.length - 0) 0)).toArray 2 (0,0)):=by rw[hw1];exact zo _ _
 have hs1:w.heap.size<w1.heap.size:=zf hab1
 have hno1:¬OutB c w1 w.heap.size:=fun hq=>by
  have:=h.outlt ((yr (hbw1.block _ hgl) _).1 hq);omega
 have HAB1:Hid (w1.heap[w.heap.size]?=some (.cells (ints ([]++List.replicate (ar.length - 0) 0)).toArray 2 (0,0))/\¬OutB c w1 w.heap.size):=⟨hab1,hno1⟩
 have HG1:=zh (h.below ok hbw1)
 have HK1:=zh (Kp.below (c:=c) (Y:=nY) hbw1 hgl)
 have k8':w1.cell? ⟨x,8,none⟩=some (.slice ga ar.length gc):=(hbw1.cell (p:=⟨x,8,none⟩) hxl).trans k8
 have hxl1:x<w1.heap.size:=by omega
 have HSC:=zh hs
 have HOK:=zh ok
 have HE:=zh hE
 have HCC:=zh hC
 have HX:Hid (∀ W s' k',GS c W s' k'->x<W.heap.size/\W.cell? ⟨x,3,none⟩=some (.string (bs md))/\W.cell? ⟨x,4,none⟩=some (.string (bs nm))):=fun W s' k' hW=>⟨zf ((hW.st x hD).trans hb),(za ((hW.st x hD).trans hb)).trans rfl,(za ((hW.st x hD).trans hb)).trans rfl⟩
 have HLO:Hid (lo'∈c.L):=hl'
 have HPR:Hid (Tp.procIn lo'.m nm=some p):=q3
 have HOF:=zh hof
 have HNM:=zh hnm'
 have HPL:Hid (p.params.length=ar.length):=q4
 obtain⟨full,hfull⟩:∃ full,full=Tp.evs g k lo.m.name own ar s:=⟨_,rfl⟩
 rw[<-hfull]at hres
 have HRES:=zh hres
 have HN:=zh hn
 have HF0:Hid (∃ gi,gi<=g/\full=preR [] (Tp.evs gi k lo.m.name own (ar.drop 0) s)):=⟨g,Nat.le_refl _,by rw[preR_nil,hfull];rfl⟩
 have HST:Hid (full≠.gas):=fun e=>hn (by rw[hres,e];rfl)
 obtain⟨an,han⟩:∃ an,an=ar.length:=⟨_,rfl⟩
 rw[<-han]at hmk k8 k8' hw1 HAB1 har
 have HAN:=zh han
 have har':(an:Int)<=10:=by omega
 have HMLN:Hid (md.length<=1000000):=hml
 clear hf q2 q3 q4 hl' hm' hof hnm' hml hnl hpm hw hwa hb rg hav hlen hb1 hbw1 hab1 hno1 h ok hE hC hs hx hres hn hfull han
 go_enter Tryz.func176,Tryz.ntmps176
 go_upto_region 2 with fail
 rw[<-hw1]
 clear hw1 k8
 go_wp2_with fail
 go_loopg [19] an (fun kk vi wr=>∃(i:Nat) (si:Rs) (vsi:List Int),i<=an/\kk=an - i/\vi=.int .i64 (i:Int)/\Hid (GS c wr si k)/\Hid (Kp c nY w wr)/\Hid (si.left<=s.left)/\Hid (vsi.length=i/\∀ v∈vsi,Tp.I64 v)/\Hid (wr.heap[w.heap.size]?=some (.cells (ints (vsi++List.replicate (an - i) 0)).toArray 2 (0,0))/\¬OutB c wr w.heap.size)/\Hid (∃ gi,gi<=g/\full=preR vsi (Tp.evs gi k lo.m.name own (ar.drop i) si)))
 case atStart=>exact⟨0,s,[],by omega,by omega,rfl,HG1,HK1,Nat.le_refl _,⟨rfl,fun v hv=>by cases hv⟩,HAB1,HF0⟩
 case round =>
  obtain⟨i,si,vsi,hid,hkk,rfl,HG,HK,HL,HV,HAB,HF⟩:=hrel
  have hszr:=HK.out.size
  have habl:w.heap.size<wr.heap.size:=zf HAB.out.1
  by_cases hlt:i<an
  ·have hlt':(i:Int)<(an:Int):=by omega
   obtain⟨gi,hgi,hfl⟩:=HF.out
   have hia:i<ar.length:=by have:=HAN.out;omega
   obtain⟨gb',yb,rfl,hgD,hgc,hex⟩:=HGA.out i hia
   have kc:=HG.out.cell0 hgD hgc
   have hgl':=zg kc
   rw[List.drop_eq_getElem_cons hia]at hfl
   cases gi with
   | zero=>exact absurd (by rw[hfl,Tp.evs];rfl) HST.out
   | succ g1 =>
    rw[evs_step]at hfl
    have hng:Tp.evX g1 k lo.m.name own [ar[i]] si≠.gas:=fun e=>HST.out (by rw[hfl,e])
    have HCL:=zh (HE.out g1 (by omega) k lo own names [ar[i]] yb wr si sb ob hex HG.out (HSC.out.kp HK.out HOK.out.Vlt HL.out) hng)
    cases hr:Tp.evX g1 k lo.m.name own [ar[i]] si with
    | gas=>exact absurd hr hng
    | stop way s2 =>
     rw[hr]at hfl HCL
     have HR:Hid (∀ e W,EvP c k wr si (.stop way s2) e W->EvP c k w s res e W):=fun e W hW=>by
      rw[HRES.out,hfl]
      exact hW.up HK.out HL.out
     clear hfl hr hng hgc hex hgD
     go_wp2_with fail
     refine HCL.out.mono ?_
     rintro e w3 ⟨⟨older,rfl⟩,hg3,hk3⟩
     have HG3:=zh hg3
     have HK3:=zh hk3
     clear hg3 hk3
     go_wp2_with fail
     exact⟨rfl,HR.out _ _ ⟨⟨older,rfl⟩,HG3.out,HK3.out⟩⟩
    | ok v s2 =>
     rw[hr]at hfl HCL
     have HFL:=zh hfl
     clear hfl hr hng hgc hex hgD
     go_wp2_with fail
     refine HCL.out.mono ?_
     rintro e w3 ⟨rfl,hg3,hk3,hl3,hi3⟩
     have hbl3:w3.heap[w.heap.size]?=some (.cells (ints (vsi++List.replicate (an - i) 0)).toArray 2 (0,0)):=(hk3.block _ habl (by omega) (fun q=>by have:=HOK.out.Vlt _ q;omega) HAB.out.2 (fun q=>q)).trans HAB.out.1
     have hno3:¬OutB c w3 w.heap.size:=fun q=>by
      rcases hk3.out _ q with z|z
      ·exact HAB.out.2 z
      ·omega
     have hvl:=HV.out.1
     have kold:∃ old,w3.cell? ⟨w.heap.size,i,none⟩=some old:=by
      rw[za hbl3]
      exact⟨_,Array.getElem?_eq_getElem (by simp[ints];omega)⟩
     obtain⟨old,kold⟩:=kold
     have kz:w3.frozen? ⟨w.heap.size,i,none⟩=false:=zi hbl3
     have hwl3:w.heap.size<w3.heap.size:=zf hbl3
     have HG4:=zh (hg3.setO HOK.out (b:=w.heap.size) (j:=i) (v:=.int .i64 v) (by omega) hno3)
     have HK4:=zh ((HK.out.trans hk3).setNew (b:=w.heap.size) (j:=i) (u:=.int .i64 v) zn (by omega))
     have HL4:Hid (s2.left<=s.left):=Nat.le_trans hl3 HL.out
     have HV4:Hid ((vsi++[v]).length=i+1/\∀ u∈vsi++[v],Tp.I64 u):=⟨by simp[hvl],fun u hu=>by
      rcases List.mem_append.1 hu with q|q
      ·exact HV.out.2 u q
      ·rw[List.mem_singleton]at q;rw[q];exact hi3⟩
     have HAB4:Hid ((w3.setCell ⟨w.heap.size,i,none⟩ (.int .i64 v)).heap[w.heap.size]?=some (.cells (ints ((vsi++[v])++List.replicate (an - (i+1)) 0)).toArray 2 (0,0))/\¬OutB c (w3.setCell ⟨w.heap.size,i,none⟩ (.int .i64 v)) w.heap.size):=⟨by rw[zu i _ hbl3,ints_set hvl hlt],fun q=>hno3 ((yr (zx _ (by omega)) _).1 q)⟩
     have HF4:Hid (∃ gi,gi<=g/\full=preR (vsi++[v]) (Tp.evs gi k lo.m.name own (ar.drop (i+1)) s2)):=⟨g1,by omega,HFL.out⟩
     clear hg3 hk3 hl3 hi3 hbl3 hno3 hvl HFL
     go_wp2_with fail
     go_roundg (an - (i+1))
     case measure=>omega
     case rel=>exact⟨i+1,s2,vsi++[v],by omega,rfl,by go_num,HG4,HK4,HL4,HV4,HAB4,HF4⟩
  ·have hlt':¬(i:Int)<(an:Int):=by omega
   have hei:i=an:=by omega
   subst hei
   obtain⟨gi,hgi,hfl⟩:=HF.out
   rw[List.drop_of_length_le (by have:=HAN.out;omega)]at hfl
   cases gi with
   | zero=>exact absurd (by rw[hfl,Tp.evs];rfl) HST.out
   | succ g1 =>
    have hfl2:full=.ok vsi si:=by rw[hfl,Tp.evs];simp[preR,Tp.Ru.pure]
    obtain⟨p',p1,p2,_⟩:=HG.out.vals lo' HLO.out
    have hres2:res=Tp.callP g k lo'.m.name p vsi si:=by
     rw[HRES.out,hfl2]
     unfold appR
     simp only
     rw[<-HNM.out,p1]
     simp only [Option.bind_some]
     rw[p2]
     have e:(lo'.m.procs.find? fun q=>q.name == nm)=some p:=HPR.out
     rw[e]
    have hia:IntsAt wr vsi (some ⟨w.heap.size,0,none⟩):=⟨fun j hj=>by
     refine⟨w.heap.size,0,rfl,habl,?_⟩
     rw[za HAB.out.1]
     simp[ints,hj]⟩
    have hnc:Tp.callP g k lo'.m.name p vsi si≠.gas:=fun e=>HN.out (by rw[hres2,e])
    obtain⟨hxr,j3,j4⟩:=HX.out wr si k HG.out
    have hsr:=HSC.out.kp HK.out HOK.out.Vlt HL.out
    have HOFC:Hid (∀ W:World,W.heap=wr.heap->Calls Tryz.prog 198 #[.pointer (some ⟨sb,0,none⟩),.string (bs md)] W fun e w'=>e=.returned (.pointer (some ⟨lo'.lb,0,none⟩))/\w'=W):=fun W hW=>rof HG.out HOK.out hsr HOF.out HMLN.out W hW
    have HCAL:Hid (∀ W:World,Below wr.heap.size wr W->Calls Tryz.prog 56 #[.pointer (some ⟨c.gb,0,none⟩),.pointer (some ⟨lo'.lb,0,none⟩),.string (bs nm),.slice (some ⟨w.heap.size,0,none⟩) i i] W (EvP c k W si (Tp.callP g k lo'.m.name p vsi si))):=fun W hW=>by
     have e:=HCC.out k lo' nm p vsi W si (some ⟨w.heap.size,0,none⟩) i HLO.out HPR.out (by rw[HV.out.1,HPL.out];exact HAN.out) HV.out.2 (HG.out.below HOK.out hW) (hia.on hW) hnc
     rw[HV.out.1]at e
     exact e
    have hsbl:=zf hsr.blk
    have HSB:Hid (∀ W s2,GS c W s2 k->Kp c nY wr.drew W->W.cell? ⟨sb,0,none⟩=some (.pointer (some ⟨c.gb,0,none⟩))/\W.cell? ⟨x,3,none⟩=some (.string (bs md))/\W.cell? ⟨x,4,none⟩=some (.string (bs nm))):=fun W s2 a1 a2=>⟨(za ((hsr.drew HOK.out HG.out.lt).kp a2 HOK.out.Vlt (Nat.zero_le _)).blk).trans rfl,(HX.out W s2 k a1).2⟩
    have HS0:Hid (wr.drew.cell? ⟨sb,0,none⟩=some (.pointer (some ⟨c.gb,0,none⟩))/\wr.drew.cell? ⟨x,3,none⟩=some (.string (bs md))/\wr.drew.cell? ⟨x,4,none⟩=some (.string (bs nm))):=⟨(za hsr.blk).trans rfl,j3,j4⟩
    have HBD:Hid (Below wr.heap.size wr wr.drew):=(Below.refl _ _).drew
    have HRS2:=zh hres2
    have HKD:Hid (∀ e W,EvP c k wr.drew si res e W->EvP c k w s res e W):=fun e W hW=>hW.up (HK.out.trans (Kp.drew c nY HG.out.lt)) HL.out
    have hnn:=HN.out
    rw[hres2]at hnn
    clear hfl hfl2 hres2 p1 p2 hia hnc hsr j3 j4 HF HAB HV HSC
    cases hcr:Tp.callP g k lo'.m.name p vsi si with
    | gas=>exact absurd hcr hnn
    | ok v s2 =>
     rw[hcr]at HCAL HRS2
     clear hcr hnn
     go_wp2_with fail
     go_region_held3 (fun w'=>w'.cell? ⟨sb,0,none⟩=some (.pointer (some ⟨c.gb,0,none⟩))/\w'.cell? ⟨x,3,none⟩=some (.string (bs md))/\w'.cell? ⟨x,4,none⟩=some (.string (bs nm))) (with_reducible (first|exact HS4.out|exact HS0.out)) (first|(go_at_call 198;refine(HOFC.out wr.drew rfl).mono ?_;rintro e w3 ⟨rfl,rfl⟩)|(go_at_call 56;refine(HCAL.out _ HBD.out).mono ?_;rintro e w4 ⟨rfl,hq4⟩;have HQ4:=zh hq4;have HS4:Hid (w4.cell? ⟨sb,0,none⟩=some (.pointer (some ⟨c.gb,0,none⟩))/\w4.cell? ⟨x,3,none⟩=some (.string (bs md))/\w4.cell? ⟨x,4,none⟩=some (.string (bs nm))):=HSB.out _ _ hq4.1 hq4.2.1;clear hq4))
     go_wp2_with fail
     go_ret
     refine HKD.out _ _ ?_
     rw[HRS2.out]
     exact⟨rfl,HQ4.out⟩
    | stop way s2 =>
     rw[hcr]at HCAL HRS2
     clear hcr hnn
     go_wp2_with fail
     go_region_held (fun w'=>w'.cell? ⟨sb,0,none⟩=some (.pointer (some ⟨c.gb,0,none⟩))/\w'.cell? ⟨x,3,none⟩=some (.string (bs md))/\w'.cell? ⟨x,4,none⟩=some (.string (bs nm))) (with_reducible (first|exact hF.out.elim|exact HS0.out)) (first|(go_at_call 198;refine(HOFC.out wr.drew rfl).mono ?_;rintro e w3 ⟨rfl,rfl⟩)|(go_at_call 56;refine jM (.int .i64 0) (HCAL.out _ HBD.out) ?hT ?_;(case hT=>(rintro e w3 ⟨⟨older,rfl⟩,hg3,hk3⟩;refine⟨rfl,HKD.out _ _ ?_⟩;rw[HRS2.out];exact⟨⟨older,rfl⟩,hg3,hk3⟩));intro hF))
     exact hF.out.elim
theorem value_app {c:Cx}{g:Nat}(ok:CxOk c) (hE:∀ n,n<g->EvC c n) (hC:CallC c g) {k:Nat}{lo:Lo}{own:Own}{names:List Bs}{x:Nat}{w:World}{s:Rs}{sb pos n:Nat}{ob:Option Nat}{md nm op:Bs}{le ri ar:List X}(hx:Ex c lo names [⟨6,pos,n,md,nm,op,le,ri,ar⟩] x) (h:GS c w s k) (hs:Sc c w sb ob lo own names s.left) (hn:Tp.evX (g+1) k lo.m.name own [⟨6,pos,n,md,nm,op,le,ri,ar⟩] s≠.gas) :
  Calls Tryz.prog 150 #[.pointer (some ⟨sb,0,none⟩),.pointer (some ⟨x,0,none⟩)] w (EvP c k w s (Tp.evX (g+1) k lo.m.name own [⟨6,pos,n,md,nm,op,le,ri,ar⟩] s)):=by
 rw[evX_app]at hn ⊢
 have HP:=zh (apply_all ok hE hC hx h hs rfl hn)
 obtain⟨av,ls,rs,gs,hD,hb,_⟩:=hx.blk
 have hb1:=(h.st x hD).trans hb
 have hxl:=zf hb1
 have k0:w.cell? ⟨x,0,none⟩=some (.int .i64 6):=(za hb1).trans rfl
 generalize appR g k (if md=[] then lo.m.name else md) nm (Tp.evs g k lo.m.name own ar s)=res at *
 clear hb hb1 h hs hx hE hC
 cases res with
 | gas=>exact absurd rfl hn
 | stop way s' =>
  clear hn
  go_enter Tryz.func150,Tryz.ntmps150
  go_wp2_with fail
  refine HP.out.mono ?_
  rintro e w2 ⟨⟨older,rfl⟩,hg2,hk2⟩
  have HG2:=zh hg2
  have HK2:=zh hk2
  clear hg2 hk2
  go_wp2_with fail
  exact⟨rfl,⟨older,rfl⟩,HG2.out,HK2.out⟩
 | ok v s' =>
  clear hn
  go_enter Tryz.func150,Tryz.ntmps150
  go_wp2_with fail
  refine HP.out.mono ?_
  rintro e w2 ⟨rfl,hq⟩
  have HQ:=zh hq
  clear hq
  go_wp2_with fail
  go_ret
  exact⟨rfl,HQ.out⟩
theorem ev_all {c:Cx}{g:Nat}(ok:CxOk c) (hE:∀ n,n<g+1->EvC c n) (hC:CallC c g):EvC c (g+1):=by
 intro k lo own names l x w s sb ob hx h hs hn
 have hlen:l.length=1:=by have:=RepL.len l _ hx.rep;simpa using this.symm
 obtain⟨y,rfl⟩:=Tp.len1 hlen
 obtain⟨code,pos,n,md,nm,op,le,ri,ar⟩:=y
 have hw:=hx.wx
 rw[Tp.WX]at hw
 rcases hw.1 with q|q|q|q|q|q
 ·obtain⟨rfl,_⟩:=q;exact value_num hx h
 ·obtain⟨rfl,_⟩:=q;exact value_var ok hx h hs
 ·obtain⟨rfl,_⟩:=q;exact value_item ok (hE g (by omega)) hx h hs hn
 ·obtain⟨rfl,_⟩:=q;exact value_un ok (hE g (by omega)) hx h hs hn
 ·obtain⟨rfl,_⟩:=q;exact value_bin ok (hE g (by omega)) hx h hs hn
 ·obtain⟨rfl,_⟩:=q;exact value_app ok (fun n hn=>hE n (by omega)) hC hx h hs hn
theorem ev_zero (c:Cx):EvC c 0:=by
 intro k lo own names l x w s sb ob _ _ _ hn
 exact absurd (by rw[Tp.evX];rfl) hn
structure StAt (c:Cx) (x:S) (b o:Nat):Prop where
 d:c.D b
 r:∃(tv ev:Value) (ls vs tcs ecs:List Value),c.w0.cell? ⟨b,o,none⟩=some (.int .i64 (x.code:Int))/\c.w0.cell? ⟨b,o+2,none⟩=some (.string (bs x.name))/\c.w0.cell? ⟨b,o+3,none⟩=some (ls.headD (.pointer none))/\c.w0.cell? ⟨b,o+4,none⟩=some (vs.headD (.pointer none))/\c.w0.cell? ⟨b,o+5,none⟩=some tv/\c.w0.cell? ⟨b,o+6,none⟩=some ev /\
  RepL c.w0 c.D x.index ls/\ls.length<=1/\RepL c.w0 c.D x.value vs/\vs.length<=1/\RepS c.w0 c.D x.thn tcs/\OwnS c.w0 c.D tv x.thn.length tcs/\RepS c.w0 c.D x.els ecs/\OwnS c.w0 c.D ev x.els.length ecs
def updO (own:Own) (nm:Bs) (v:Int):Own:=fun q=>if q=nm then some v else own q
theorem Sc.store {c:Cx}{w:World}{s:Rs}{k sb ob:Nat}{lo:Lo}{own:Own}{names:List Bs}{left:Nat}(h:GS c w s k) (ok:CxOk c) (hs:Sc c w sb (some ob) lo own names (left+1)) (nm:Bs) (hn:nm.length<=1000000) (hin:nm∈names) (v:Int) (hv:Tp.I64 v) :
  ∃ w',(Instr.mapUpdate 96 (.map (some ob)) (.string (bs nm)) (.int .i64 v)).run Tryz.prog w=.ok () w'/\GS c w' s k/\Kp c (oY (some ob)) w w'/\Sc c w' sb (some ob) lo (updO own nm v) names left:=by
 obtain⟨q1,q2,q3,n,q4,q5⟩:=hs.om
 obtain⟨w',r1,r2,r3,r4⟩:=q5.store (t:=96) Tryz.underlying96 (by omega) nm hn (.int .i64 v)
 have hsb:=zf hs.blk
 have hgl:=h.lt
 have hgb:w'.heap[c.gb]?=w.heap[c.gb]?:=r3.block _ hgl (by omega)
 refine⟨w',r1,h.on ok hgb (fun b hb hor=>r3.block b hb (fun e=>?_)),⟨r3.os,r3.tape,r3.output,r3.size,fun b hb _ _ _ hy=>r3.block b hb (fun e=>hy (by rw[e];rfl)),fun b hb=>Or.inl ((yr hgb b).1 hb)⟩,⟨hs.hi,fun q=>hs.no ((yr hgb _).1 q),(r3.block sb hsb (fun e=>q2 e.symm)).trans hs.blk,⟨q1,q2,fun q=>q3 ((yr hgb _).1 q),n+1,by omega,?_⟩,fun q u hu=>?_,fun q=>?_,hs.mem⟩⟩
 ·rcases hor with z|z
  ·omega
  ·exact q3 (e ▸ z)
 ·have e:updV (fun k=>(own k).map fun v=>.int .i64 v) nm (.int .i64 v)=fun k=>(updO own nm v k).map fun v=>.int .i64 v:=by
   funext q
   unfold updV updO
   by_cases e:q=nm
   ·rw[if_pos e,if_pos e];rfl
   ·rw[if_neg e,if_neg e]
  rw[<-e]
  exact r2
 ·unfold updO at hu
  split at hu
  ·cases hu;exact hv
  ·exact hs.i64 q u hu
 ·unfold updO
  by_cases e:q=nm
  ·rw[if_pos e];simp[e,hin]
  ·rw[if_neg e];exact hs.dom q
def CellS (c:Cx) (b o:Nat) (nm:Bs) (iv:Value) (z:Nat):Prop:=∀ W s' k',GS c W s' k'->b<W.heap.size/\W.cell? ⟨b,o+2,none⟩=some (.string (bs nm))/\W.cell? ⟨b,o+3,none⟩=some iv/\W.cell? ⟨b,o+4,none⟩=some (.pointer (some ⟨z,0,none⟩))
theorem set_own {c:Cx}(ok:CxOk c) {k:Nat}{lo:Lo}{own:Own}{names:List Bs}{w:World}{s:Rs}{sb b o z ob:Nat}{nm:Bs}{rr:Rs->Rr Int}(h:GS c w s k) (hs:Sc c w sb (some ob) lo own names (s.left+1)) (hX:CellS c b o nm (.pointer none) z) (hn:nm.length<=1000000) (hin:nm∈names) (hR:RightC c k w s sb z rr)
  {res:Rr (Own× Option Int)} (hres:res=match rr s with | .ok v s'=>.ok (updO own nm v,none) s' | .stop way s'=>.stop way s' | .gas=>.gas) (hng:res≠.gas) :
  Calls Tryz.prog 149 #[.pointer (some ⟨sb,0,none⟩),.pointer (some ⟨b,o,none⟩)] w (GoP c k sb (some ob) lo names w s res):=by
 obtain⟨hbl,k2,k3,k4⟩:=hX w s k h
 have hgl:=h.lt
 have hnr:rr s≠.gas:=fun e=>hng (by rw[hres,e])
 have HC:=zh (hR w s h (Kp.refl _ _ _) zn hnr)
 have HX:=zh hX
 have HSC:=zh hs
 have HOK:=zh ok
 clear hX hs ok h hR
 cases hr:rr s with
 | gas=>exact absurd hr hnr
 | stop way s' =>
  rw[hr]at HC hres
  have HR:Hid (∀ e W,thrE endT (way:Int) e->(∃ k',GS c W s' k')->Kp c nY w W->GoP c k sb (some ob) lo names w s res e W):=fun e W a1 a2 a3=>by rw[hres];exact⟨a1,a2,a3.wide⟩
  clear hres hng hnr hr
  go_enter Tryz.func149,Tryz.ntmps149
  go_wp2_with fail
  refine HC.out.mono ?_
  rintro e w2 ⟨⟨older,rfl⟩,hg2,hk2⟩
  have HG2:=zh hg2
  have HK2:=zh hk2
  clear hg2 hk2
  go_wp2_with fail
  exact⟨rfl,HR.out _ _ ⟨older,rfl⟩ HG2.out HK2.out⟩
 | ok v s' =>
  rw[hr]at HC hres
  have HR:Hid (∀ W,GS c W s' k->Kp c (oY (some ob)) w W->s'.left<=s.left->Sc c W sb (some ob) lo (updO own nm v) names s'.left->GoP c k sb (some ob) lo names w s res (.returned (.tuple #[])) W):=fun W a1 a2 a3 a4=>by rw[hres];exact⟨rfl,a1,a2,a3,a4⟩
  clear hres hng hnr hr
  go_enter Tryz.func149,Tryz.ntmps149
  go_wp2_with fail
  refine HC.out.mono ?_
  rintro e w2 ⟨rfl,hg2,hk2,hl2,hi2⟩
  obtain⟨hbl2,j2,_,_⟩:=HX.out w2 s' k hg2
  have hsc2:=HSC.out.kp (left':=s'.left+1) hk2 HOK.out.Vlt (by omega)
  have ks:w2.cell? ⟨sb,2,none⟩=some (.map (some ob)):=(za hsc2.blk).trans rfl
  have hsl:=zf hsc2.blk
  obtain⟨ov,hov⟩:=Option.isSome_iff_exists.1 ((hsc2.dom nm).2 hin)
  have hlk:∀ n,(Instr.lookup 96 (.map (some ob)) (.string (bs nm)) true).run Tryz.prog (w2.drewN n)=.ok (.tuple #[.int .i64 ov,.bool true]) (w2.drewN n):=fun n=>by
   rw[hsc2.look nm hn (w2.drewN n) (fun _=>rfl),hov];rfl
  have HSC2:=zh hsc2
  have HG2:=zh hg2
  have HK2:=zh hk2
  have HL2:=zh hl2
  have HI2:=zh hi2
  clear hsc2 hg2 hk2 hl2 hi2 hov k2 k3 k4
  go_wp2_with fail
  go_quiet (fail)
  obtain⟨w3,hw3⟩:∃ w3,w3=w2.drewN nq:=⟨_,rfl⟩
  have e3:w3.heap=w2.heap:=by rw[hw3];rfl
  have hb3:Below w2.heap.size w2 w3:=by rw[hw3];exact below_drewN (Below.refl _ _) _
  rw[<-hw3]
  clear hw3
  have hg3:=HG2.out.below HOK.out hb3
  have hsc3:=HSC2.out.below HOK.out hb3 HG2.out.lt
  have hbd:Below w3.heap.size w3 w3.drew:=(Below.refl _ _).drew
  obtain⟨w4,hmu,hg4,hk4,hs4⟩:=Sc.store (left:=s'.left) (hg3.drew HOK.out) HOK.out (hsc3.drew HOK.out hg3.lt) nm hn hin v HI2.out
  have r2:w3.cell? ⟨b,o+2,none⟩=some (.string (bs nm)):=(zC e3 _).trans j2
  have rs:w3.cell? ⟨sb,2,none⟩=some (.map (some ob)):=(zC e3 _).trans ks
  have rb:b<w3.heap.size:=by rw[e3];exact hbl2
  have rl:sb<w3.heap.size:=by rw[e3];exact hsl
  have HG4:=zh hg4
  have HS4:=zh hs4
  have HK4:Hid (Kp c (oY (some ob)) w w4):=(HK2.out.wide.trans (Kp.below hb3 HG2.out.lt)).trans ((Kp.drew c _ hg3.lt).trans hk4)
  clear hg3 hsc3 hg4 hk4 hs4 hb3 hbd e3 hlk j2 ks
  go_wp2_with fail
  go_region
  all_goals go_wp2_with fail
  all_goals exact bodyPost_ret (results_none rfl _ _ _) rfl (HR.out _ HG4.out HK4.out HL2.out HS4.out)
def setS (s:Rs) (md nm:Bs) (l:List Int):Rs:={ s with w:=setP md nm l s.w }
theorem set_tail {c:Cx}(ok:CxOk c) {k:Nat}{lo:Lo}{own:Own}{names:List Bs}{w W:World}{s s':Rs}{sb:Nat}{ob:Option Nat}{nm:Bs}{g:G}(hs:Sc c w sb ob lo own names (s.left+1)) (hg:Tp.varOf lo.m nm=some g) (hG:GS c W s' k) (hK:Kp c nY w W) (hL:s'.left<=s.left) :
  ∃ p,Tp.partOf s'.w lo.m.name=some p/\(p.vars nm).length=vlen g/\vlen g<=1000/\∀(j:Nat) (v:Int),j<vlen g->Tp.I64 v->(∃ old,W.cell? ⟨lo.sl nm,j,none⟩=some old)/\W.frozen? ⟨lo.sl nm,j,none⟩=false/\lo.sl nm<W.heap.size /\
   ∀ W',Below W.heap.size W W'->GS c (W'.setCell ⟨lo.sl nm,j,none⟩ (.int .i64 v)) (setS s' lo.m.name nm ((p.vars nm).set j v)) k/\Kp c (oY ob) w (W'.setCell ⟨lo.sl nm,j,none⟩ (.int .i64 v))/\(setS s' lo.m.name nm ((p.vars nm).set j v)).left<=s.left/\Sc c (W'.setCell ⟨lo.sl nm,j,none⟩ (.int .i64 v)) sb ob lo own names (setS s' lo.m.name nm ((p.vars nm).set j v)).left:=by
 obtain⟨p,p1,p2,p3,p4,p5,p6,p7⟩:=hG.val ok hs.mem hg
 refine⟨p,p1,p2,p5,fun j v hj hv=>?_⟩
 obtain⟨q,q1,q2,q3⟩:=hG.vals lo hs.mem
 have hq:q=p:=by rw[p1]at q1;injection q1 with q1;exact q1.symm
 subst hq
 have hblk:=(q3 g p6).2.1
 rw[p7]at hblk
 refine⟨⟨_,by rw[p3 j,List.getElem?_eq_getElem (by omega)];rfl⟩,zi hblk,zf hblk,fun W' hW'=>?_⟩
 have hG':=hG.below ok hW'
 have hK':=hK.trans (Kp.below hW' hG.lt)
 obtain⟨a1,a2⟩:=hG'.setv ok hs.mem p6 p1 hj hv
 rw[p7]at a1 a2
 have hK2:=hK'.trans a2
 exact⟨a1,hK2.wide,hL,hs.kp hK2 ok.Vlt (by show s'.left<=_;omega)⟩
theorem set_var {c:Cx}(ok:CxOk c) {k:Nat}{lo:Lo}{own:Own}{names:List Bs}{w:World}{s:Rs}{sb b o z:Nat}{ob:Option Nat}{nm:Bs}{g:G}{rr:Rs->Rr Int}(h:GS c w s k) (hs:Sc c w sb ob lo own names (s.left+1)) (hX:CellS c b o nm (.pointer none) z) (hn:nm.length<=1000000) (hin:nm ∉ names) (hg:Tp.varOf lo.m nm=some g) (hg0:g.len=0) (hR:RightC c k w s sb z rr)
  {res:Rr (Own× Option Int)} (hres:res=match rr s with | .ok v s'=>.ok (own,none) (setS s' lo.m.name nm [v]) | .stop way s'=>.stop way s' | .gas=>.gas) (hng:res≠.gas) :
  Calls Tryz.prog 149 #[.pointer (some ⟨sb,0,none⟩),.pointer (some ⟨b,o,none⟩)] w (GoP c k sb ob lo names w s res):=by
 obtain⟨hbl,k2,k3,k4⟩:=hX w s k h
 have hgl:=h.lt
 have hnr:rr s≠.gas:=fun e=>hng (by rw[hres,e])
 have HC:=zh (hR w s h (Kp.refl _ _ _) zn hnr)
 have HX:=zh hX
 have HSC:=zh hs
 have HOK:=zh ok
 have HG0:=zh hg
 have hv1:vlen g=1:=by unfold vlen;rw[if_pos hg0]
 clear hX hs ok h hR hg
 cases hr:rr s with
 | gas=>exact absurd hr hnr
 | stop way s' =>
  rw[hr]at HC hres
  have HR:Hid (∀ e W,thrE endT (way:Int) e->(∃ k',GS c W s' k')->Kp c nY w W->GoP c k sb ob lo names w s res e W):=fun e W a1 a2 a3=>by rw[hres];exact⟨a1,a2,a3.wide⟩
  clear hres hng hnr hr
  go_enter Tryz.func149,Tryz.ntmps149
  go_wp2_with fail
  refine HC.out.mono ?_
  rintro e w2 ⟨⟨older,rfl⟩,hg2,hk2⟩
  have HG2:=zh hg2
  have HK2:=zh hk2
  clear hg2 hk2
  go_wp2_with fail
  exact⟨rfl,HR.out _ _ ⟨older,rfl⟩ HG2.out HK2.out⟩
 | ok v s' =>
  rw[hr]at HC hres
  have HR:Hid (∀ W,GS c W (setS s' lo.m.name nm [v]) k->Kp c (oY ob) w W->(setS s' lo.m.name nm [v]).left<=s.left->Sc c W sb ob lo own names (setS s' lo.m.name nm [v]).left->GoP c k sb ob lo names w s res (.returned (.tuple #[])) W):=fun W a1 a2 a3 a4=>by rw[hres];exact⟨rfl,a1,a2,a3,a4⟩
  clear hres hng hnr hr
  go_enter Tryz.func149,Tryz.ntmps149
  go_wp2_with fail
  refine HC.out.mono ?_
  rintro e w2 ⟨rfl,hg2,hk2,hl2,hi2⟩
  obtain⟨hbl2,j2,_,_⟩:=HX.out w2 s' k hg2
  have hsc2:=HSC.out.kp (left':=s'.left+1) hk2 HOK.out.Vlt (by omega)
  have ks:w2.cell? ⟨sb,2,none⟩=some (.map ob):=(za hsc2.blk).trans rfl
  have ki:w2.cell? ⟨sb,1,none⟩=some (.pointer (some ⟨lo.lb,0,none⟩)):=(za hsc2.blk).trans rfl
  have hsl:=zf hsc2.blk
  have hon:own nm=none:=by
   cases ho:own nm with
   | none=>rfl
   | some u=>exact absurd ((hsc2.dom nm).1 (by rw[ho];rfl)) hin
  have hlk:∀ n,(Instr.lookup 96 (.map ob) (.string (bs nm)) true).run Tryz.prog (w2.drewN n)=.ok (.tuple #[.int .i64 0,.bool false]) (w2.drewN n):=fun n=>by
   rw[hsc2.look nm hn (w2.drewN n) (fun _=>rfl),hon];rfl
  obtain⟨ia,ga,pa,ba,ic,gc,pc,bc,b1,_⟩:=hg2.loB HOK.out HSC.out.mem
  have kl:w2.cell? ⟨lo.lb,5,none⟩=some (.map (some lo.vb)):=(za b1).trans rfl
  have hll:=zf b1
  obtain⟨p,p1,p2,p3,htail⟩:=set_tail HOK.out HSC.out HG0.out hg2 hk2 hl2
  obtain⟨⟨old,t1⟩,t2,t3,t4⟩:=htail 0 v (vlen_pos g) hi2
  have hset:(p.vars nm).set 0 v=[v]:=by
   rw[hv1]at p2
   obtain⟨a,ha⟩:=Tp.len1 p2
   rw[ha];rfl
  rw[hset]at t4
  have HT4:=zh t4
  have HLV:Hid (∀ W:World,W.heap=w2.heap->(Instr.lookup 105 (.map (some lo.vb)) (.string (bs nm)) false).run Tryz.prog W=.ok (.slice (some ⟨lo.sl nm,0,none⟩) 1 1) W):=fun W hW=>by
   have:=hg2.lookV HOK.out HSC.out.mem HG0.out hn W (fun _=>by rw[hW])
   rw[hv1]at this
   exact this
  clear hsc2 hg2 hk2 hl2 hi2 hon k2 k3 k4 b1 htail t4 p1 p2 p3 hset
  go_wp2_with fail
  go_quiet (fail)
  obtain⟨w3,hw3⟩:∃ w3,w3=w2.drewN nq:=⟨_,rfl⟩
  have e3:w3.heap=w2.heap:=by rw[hw3];rfl
  have HB3:Hid (Below w2.heap.size w2 w3):=by rw[hw3];exact below_drewN (Below.refl _ _) _
  rw[<-hw3]
  clear hw3
  have r2:w3.cell? ⟨b,o+2,none⟩=some (.string (bs nm)):=(zC e3 _).trans j2
  have ri:w3.cell? ⟨sb,1,none⟩=some (.pointer (some ⟨lo.lb,0,none⟩)):=(zC e3 _).trans ki
  have rk:w3.cell? ⟨lo.lb,5,none⟩=some (.map (some lo.vb)):=(zC e3 _).trans kl
  have rb:b<w3.heap.size:=by rw[e3];exact hbl2
  have rl:sb<w3.heap.size:=by rw[e3];exact hsl
  have rll:lo.lb<w3.heap.size:=by rw[e3];exact hll
  have rt:w3.cell? ⟨lo.sl nm,0,none⟩=some old:=(zC e3 _).trans t1
  have rf:w3.frozen? ⟨lo.sl nm,0,none⟩=false:=(World.frozen?_of_block (w:=w2) (by rw[e3])).trans t2
  have rtl:lo.sl nm<w3.heap.size:=by rw[e3];exact t3
  have hlv:∀ n,(Instr.lookup 105 (.map (some lo.vb)) (.string (bs nm)) false).run Tryz.prog (w3.drewN n)=.ok (.slice (some ⟨lo.sl nm,0,none⟩) 1 1) (w3.drewN n):=fun n=>HLV.out (w3.drewN n) e3
  clear e3 hlk j2 ks ki kl t1 t2 t3
  go_wp2_with fail
  go_quiet (fail)
  go_wp2_with fail
  refine(kU _ 1 1 0 (by omega) (by omega) (by omega) _).mono ?_
  rintro e w4 ⟨rfl,rfl⟩
  go_wp2_with fail
  have HF:=zh (HT4.out _ (below_drewN HB3.out nq))
  exact bodyPost_end (results_none rfl _ _ _) rfl (HR.out _ HF.out.1 HF.out.2.1 HF.out.2.2.1 HF.out.2.2.2)
end Go.Proofs.YtibncofnnlbmcaaGreatDoor
