import Derived.Test.YtibncofnnlbmcaaGreatDoorKPc
import Derived.Test.YtibncofnnlbmcaaGreatDoorKMe
import Derived.Test.YtibncofnnlbmcaaGreatDoorKMf
import Derived.KernelRfl
import Derived.Deep.RegionLawGrows
set_option maxRecDepth 100000
set_option maxHeartbeats 4000000
namespace Tp
theorem rx_count:∀(n:Nat) (l:List X),SizeOf.sizeOf l<=n->WX l->(rx l).length<=NX l:=by
 intro n
 induction n with
 |zero=>intro l e;cases l<;>simp at e<;>omega
 |succ n ih =>
  intro l e h
  cases l with
  |nil=>simp[rx]
  |cons x xs =>
   obtain⟨code,pos,p,m,nm,q,f,ri,g⟩:=x
   rw[WX]at h
   simp at e
   obtain⟨i,j⟩:=h
   have k:=ih xs (by omega) j
   rw[rx,NX]
   simp only[List.length_append]
   have o:1<=rN m:=by unfold rN;split<;>omega
   have nil:(rx []).length=0:=by simp[rx]
   rcases i with⟨c,_,_,_,_,a,b,d⟩|⟨c,_,h3,_,a,b,d⟩|⟨c,_,h3,_,a,_,b,d⟩|⟨c,_,_,_,_,a,_,b,d⟩|⟨c,_,_,_,_,a,_,b,_,d⟩|⟨c,_,h3,_,a,b,d⟩
   ·subst c;rw[a,b,d];simp[rx];omega
   ·subst c;rw[a,b,d];simp[rx];omega
   ·subst c;have:=ih f (by omega) a;rw[b,d];simp[rx];omega
   ·subst c;have:=ih f (by omega) a;rw[b,d];simp[rx];omega
   ·subst c;have:=ih f (by omega) a;have:=ih ri (by omega) b;rw[d];simp[rx];omega
   ·subst c;have:=ih g (by omega) d;rw[a,b];simp[rx];omega
theorem rs_count:∀(n:Nat) (l:List S),SizeOf.sizeOf l<=n->WS l->(rs l).length<=NS l:=by
 intro n
 induction n with
 |zero=>intro l i;cases l<;>simp at i<;>omega
 |succ n ih =>
  intro l i h
  cases l with
  |nil=>simp[rs]
  |cons x xs =>
   obtain⟨code,pos,nm,m,j,o,k⟩:=x
   rw[WS]at h
   simp at i
   obtain⟨r,s⟩:=h
   have u:=ih xs (by omega) s
   rw[rs,NS]
   simp only[List.length_append]
   have g:ev j->(rx j).length<=NX j:=fun q=>rx_count _ _ (Nat.le_refl _) q.1
   rcases r with⟨c,v,b,d,e,f⟩|⟨c,_,b,d,e,f⟩|⟨c,_,b,d,e,f⟩|⟨c,_,b,d,e,f⟩|⟨c,_,b,d,_,e,f⟩
   ·subst c
    have:=g d
    rw[e,f]
    rcases b with q|q
    ·rw[q];simp[rx,rs];omega
    ·have w:=rx_count _ _ (Nat.le_refl _) q.1
     have p:m.isEmpty=false:=by
      cases m with
      |nil=>simp at q
      |cons a t=>rfl
     simp[rs,p];omega
   ·subst c
    have:=g d;have:=ih o (by omega) e;have:=ih k (by omega) f
    rw[b]
    cases k with
    |nil=>simp[rx,rs];simp[rs]at *;omega
    |cons a t=>simp[rx];omega
   ·subst c
    have:=g d;have:=ih o (by omega) e
    rw[b,f];simp[rx,rs];omega
   ·have:=g d
    rw[b,e,f]
    rcases c with c|c<;>subst c<;>simp[rx,rs]<;>omega
   ·subst c
    have:=g d
    rw[b,e,f];simp[rx,rs];omega
theorem allR_count {m:M}(h:WM m):(allR m).length<=nM m:=by
 unfold allR nM
 have g:=rs_count _ _ (Nat.le_refl _) h.b
 have c:∀(l:List Pr),(∀p∈l,WP p)->((l.map fun p=>rs p.body).flatten).length<=(l.map nP).sum:=by
  intro l
  induction l with
  |nil=>intro _;simp
  |cons p t ih =>
   intro a
   have e:=rs_count _ _ (Nat.le_refl _) (a p (by simp)).b
   have f:=ih (fun q d=>a q (by simp[d]))
   simp only[List.map_cons,List.flatten_cons,List.length_append,List.sum_cons]
   have:NS p.body<=nP p:=by unfold nP;omega
   omega
 have:=c m.procs h.p
 rw[List.length_append]
 omega
def us (of:Bs) (l:List R):List Bs:=(l.filter fun r=>r.mod==of).map (·.name)
theorem us_app (of:Bs)(l m:List R):us of (l++m)=us of l++us of m:=by simp[us]
theorem us_len (of:Bs)(l:List R):(us of l).length<=l.length:=by unfold us;rw[List.length_map];exact List.length_filter_le _ _
theorem us_used {m:M}{of:Bs}(h:of≠[]):us of (allR m)=usedR m of:=by
 unfold us usedR
 have:(of==[])=false:=by simpa using h
 simp[this]
end Tp
namespace Go.Proofs.YtibncofnnlbmcaaGreatDoor
open Go.RowKit Go.Maps
open Tp (Bs X S)
theorem x8 {w:World}{x code:Nat}(h:w.cell? ⟨x,0,none⟩=some (.int .i64 (code:Int))):Calls Tryz.prog 124 #[.pointer (some ⟨x,0,none⟩)] w fun e w'=>e=.returned (.bool (decide (code=2\/code=3\/code=6)))/\w'=w:=by
 have d:=zg h
 rcases(show code=2\/code=3\/code=6\/¬(code=2\/code=3\/code=6) by omega) with hcd|hcd|hcd|hcd
 ·subst hcd
  go_enter Tryz.func124,Tryz.ntmps124
  go_wp2_with fail
  go_ret
  exact⟨rfl,rfl⟩
 ·subst hcd
  go_enter Tryz.func124,Tryz.ntmps124
  go_wp2_with fail
  go_ret
  exact⟨rfl,rfl⟩
 ·subst hcd
  go_enter Tryz.func124,Tryz.ntmps124
  go_wp2_with fail
  go_ret
  exact⟨rfl,rfl⟩
 ·have a:((code:Int)==2)=false:=by simp;omega
  have b:((code:Int)==3)=false:=by simp;omega
  have c:((code:Int)==6)=false:=by simp;omega
  rw[decide_eq_false hcd]
  clear hcd
  go_enter Tryz.func124,Tryz.ntmps124
  go_wp2_with fail
  go_ret
  exact⟨rfl,rfl⟩
structure UseSt (w:World) (ob nb:Nat) (of:Bs) (l:List Bs):Prop where
 o:w.cell? ⟨ob,0,none⟩=some (.string (bs of))
 c:∃v,w.heap[nb]?=some (.cells #[v] 25 (0,0))/\w.ownsRow (nb+1) 9 1 v l.length (strs l)
 ne:ob<nb
theorem UseSt.on {w w':World}{ob d:Nat}{of:Bs}{l:List Bs}(h:UseSt w ob d of l)(k:Below w.heap.size w w'):UseSt w' ob d of l:=by
 obtain⟨v,a,e⟩:=h.c
 exact⟨(k.cell (p:=⟨ob,0,none⟩) (zg h.o)).trans h.o,⟨v,(k.block _ (zf a)).trans a,zH e (fun b _ f _=>k.block b f)⟩,h.ne⟩
def OwnN (w:World) (nb k:Nat):Prop:=∃v,w.cell? ⟨nb,0,none⟩=some v/\v.ownBlock=some k
structure UseK (nb:Nat) (w w':World):Prop where
 s:w.heap.size<=w'.heap.size
 k:∀k,k<w.heap.size->k≠nb->¬OwnN w nb k->w'.heap[k]?=w.heap[k]?/\¬OwnN w' nb k
theorem UseK.trans {d:Nat}{e w2 f:World}(h:UseK d e w2)(g:UseK d w2 f):UseK d e f:=⟨Nat.le_trans h.s g.s,fun k a b c=>by
 obtain⟨l,m⟩:=h.k k a b c
 obtain⟨i,j⟩:=g.k k (Nat.lt_of_lt_of_le a h.s) b m
 exact⟨i.trans l,j⟩⟩
theorem UseK.below {b:Nat}{w w':World}(h:Below w.heap.size w w')(d:b<w.heap.size):UseK b w w':=⟨h.size,fun k a _ c=>⟨h.block k a,fun ⟨v,e,f⟩=>c ⟨v,by rw[<-h.cell (p:=⟨b,0,none⟩) d];exact e,f⟩⟩⟩
def UseP (w:World) (ob nb:Nat) (of:Bs) (l:List Bs) (e:Ending) (w':World):Prop:=e=.returned (.tuple #[])/\Below nb w w'/\UseSt w' ob nb of l/\UseK nb w w'
def usedV (ob nb:Nat):Value:=.func (.func 123) #[] #[.pointer (some ⟨ob,0,none⟩),.pointer (some ⟨nb,0,none⟩)]
theorem show_not {w:World}{ob j x:Nat}{of:Bs}{l:List Bs}(h:UseSt w ob j of l){r:Tp.R}(s:RefB w x r)(g:¬((r.code=2\/r.code=3\/r.code=6)/\r.mod=of)) :
  Calls Tryz.prog 123 #[.pointer (some ⟨x,0,none⟩),.pointer (some ⟨ob,0,none⟩),.pointer (some ⟨j,0,none⟩)] w (UseP w ob j of l):=by
 obtain⟨code,pos,md,nm,args⟩:=r
 obtain⟨n,A,z,B,y,ac,a⟩:=s
 simp only at a g
 have u:=zf a
 have p:w.cell? ⟨x,0,none⟩=some (.int .i64 (code:Int)):=(za a).trans rfl
 have c3:w.cell? ⟨x,3,none⟩=some (.string (bs md)):=(za a).trans rfl
 have q:=h.o
 have t:=zg q
 have d:Hid (∀n,Calls Tryz.prog 124 #[.pointer (some ⟨x,0,none⟩)] (w.drewN n) fun e w'=>e=.returned (.bool (decide (code=2\/code=3\/code=6)))/\w'=w.drewN n):=fun n=>x8 (w:=w.drewN n) p
 have f:=zh h
 have k:=beq_bs md of
 clear h a
 by_cases b:code=2\/code=3\/code=6
 ·have m:¬md=of:=fun e=>g ⟨b,e⟩
  rw[decide_eq_true b]at d
  rw[decide_eq_false m]at k
  clear g b m
  go_enter Tryz.func123,Tryz.ntmps123
  go_wp2_with fail
  go_quiet ((go_at_call 124;exact Calls.quiet_of_same (d.out _)))
  go_wp2_with fail
  exact bodyPost_end (results_none rfl _ _ _) rfl ⟨rfl,below_drewN (Below.refl _ _) nq,f.out.on (below_drewN (Below.refl _ _) nq),UseK.below (below_drewN (Below.refl _ _) nq) (by obtain⟨v,i,_⟩:=f.out.c;exact zf i)⟩
 ·rw[decide_eq_false b]at d
  clear g b k
  go_enter Tryz.func123,Tryz.ntmps123
  go_wp2_with fail
  go_quiet ((go_at_call 124;exact Calls.quiet_of_same (d.out _)))
  go_wp2_with fail
  exact bodyPost_end (results_none rfl _ _ _) rfl ⟨rfl,below_drewN (Below.refl _ _) nq,f.out.on (below_drewN (Below.refl _ _) nq),UseK.below (below_drewN (Below.refl _ _) nq) (by obtain⟨v,i,_⟩:=f.out.c;exact zf i)⟩
theorem UseSt.shown {w:World}{ob c:Nat}{of:Bs}{l:List Bs}{v d:Value}{nm:Bs}{W w':World}(h:UseSt w ob c of l)(f:Below w.heap.size w W)(r:w.heap[c]?=some (.cells #[v] 25 (0,0)))(B:w'.ownsRow (c+1) 9 1 d (l.length+1) (strs l++[.string (bs nm)]))(j:W.grownBy w' v.ownBlock)(A:∀g,d.ownBlock=some g->v.ownBlock=some g\/W.heap.size<=g)(H:w.ownsRow (c+1) 9 1 v l.length (strs l)) :
  Below c w (w'.setCell ⟨c,0,none⟩ d)/\UseSt (w'.setCell ⟨c,0,none⟩ d) ob c of (l++[nm])/\UseK c w (w'.setCell ⟨c,0,none⟩ d):=by
 have C:=zf r
 have J:=f.size
 have n:∀k,k<w.heap.size->v.ownBlock≠some k->w'.heap[k]?=w.heap[k]?:=fun k i q=>(j.block k (by omega) (fun e=>q e.symm)).trans (f.block k i)
 have t:∀k,v.ownBlock=some k->c+1<=k:=fun k i=>(H.lt k i).1
 have m:Below c w w':=⟨j.os.trans f.os,j.tape.trans f.tape,j.output.trans f.output,Nat.le_trans f.size j.size,fun k i=>n k (by omega) (fun e=>by have:=t k e;omega)⟩
 have x:w'.heap[c]?=some (.cells #[v] 25 (0,0)):=(n c C (fun e=>by have:=t c e;omega)).trans r
 refine⟨zq m zn 0 _,⟨?_,⟨d,?_,?_⟩,h.ne⟩,⟨by simpa using m.size,fun k i q D=>?_⟩⟩
 ·have y:=h.ne
  rw[World.cell?_setCell_far _ _ _ _ (by simp;omega)]
  exact(m.cell (p:=⟨ob,0,none⟩) y).trans h.o
 ·exact zu 0 d x
 ·have F:strs (l++[nm])=strs l++[.string (bs nm)]:=by simp[strs]
  rw[F,List.length_append]
  exact zH B (fun b y _ _=>Below.heap_setCell _ _ _ _ (by simp;omega))
 ·have E:w.cell? ⟨c,0,none⟩=some v:=(za r).trans rfl
  have s:v.ownBlock≠some k:=fun e=>D ⟨v,E,e⟩
  refine⟨?_,fun ⟨u,z,I⟩=>?_⟩
  ·rw[Below.heap_setCell _ _ _ _ (by simpa using q)]
   exact n k i s
  ·have G:(w'.setCell ⟨c,0,none⟩ d).cell? ⟨c,0,none⟩=some d:=(za (zu 0 d x)).trans rfl
   rw[G]at z
   cases z
   rcases A k I with a|a
   ·exact s a
   ·omega
theorem show_yes {w:World}{ob a x:Nat}{of:Bs}{l:List Bs}(h:UseSt w ob a of l){r:Tp.R}(hx:RefB w x r)(F:r.code=2\/r.code=3\/r.code=6)(T:r.mod=of)(S:l.length<=100000) :
  Calls Tryz.prog 123 #[.pointer (some ⟨x,0,none⟩),.pointer (some ⟨ob,0,none⟩),.pointer (some ⟨a,0,none⟩)] w (UseP w ob a of (l++[r.name])):=by
 obtain⟨code,pos,md,nm,args⟩:=r
 obtain⟨n,op,lv,rv,aa,ac,d⟩:=hx
 simp only at d F T
 subst T
 obtain⟨i1,hi,Y,Z,a0⟩:=info_parts Tryz.infoString
 have X:=zf d
 have O:w.cell? ⟨x,0,none⟩=some (.int .i64 (code:Int)):=(za d).trans rfl
 have c3:w.cell? ⟨x,3,none⟩=some (.string (bs md)):=(za d).trans rfl
 have P:w.cell? ⟨x,4,none⟩=some (.string (bs nm)):=(za d).trans rfl
 have Q:=h.o
 have a4:=zg Q
 have J:Hid (∀n,Calls Tryz.prog 124 #[.pointer (some ⟨x,0,none⟩)] (w.drewN n) fun e w'=>e=.returned (.bool (decide (code=2\/code=3\/code=6)))/\w'=w.drewN n):=fun n=>x8 (w:=w.drewN n) O
 rw[decide_eq_true F]at J
 obtain⟨v,G,A⟩:=h.c
 obtain⟨t,y,rfl⟩:=zw A
 have M:=zf G
 have HU:=zh h
 have HV:=zh G
 have HO:=zh A
 have a2:((bs md).toList==(bs md).toList)=true:=by simp
 clear h d F G A
 go_enter Tryz.func123,Tryz.ntmps123
 go_wp2_with fail
 go_quiet ((go_at_call 124;exact Calls.quiet_of_same (J.out _)))
 go_wp2_with fail
 obtain⟨w2,m⟩:∃w2,w2=w.drewN nq:=⟨_,rfl⟩
 have g:Below w.heap.size w w2:=by rw[m];exact below_drewN (Below.refl _ _) nq
 rw[<-m]
 have L:=HU.out.on g
 have k:=(g.block _ M).trans HV.out
 have N:=zH HO.out (w':=w2) (fun b _ S _=>g.block b S)
 have a5:w2.heap.size=w.heap.size:=by rw[m];rfl
 have d4:w2.cell? ⟨x,4,none⟩=some (.string (bs nm)):=(g.cell (p:=⟨x,4,none⟩) X).trans P
 have dn:w2.cell? ⟨a,0,none⟩=some (.slice t l.length y):=(za k).trans rfl
 have zn:w2.frozen? ⟨a,0,none⟩=false:=zi k
 have a1:x<w2.heap.size:=by omega
 have V:a<w2.heap.size:=by omega
 have I:=zh g
 have B:=zh k
 have K:=zh L
 have f:=zh N
 clear m g L k N O c3 P Q
 go_region_law (first|(refine zY rfl (.tmp 14) (.tmp 19) 25 rfl (a+1) 9 i1 (.string ⟨#[]⟩) 1 16 Tryz.underlying25 hi Y Z a0 rfl (by decide) (.slice t l.length y) l.length (strs l) (by simp[Act.eval]) ?own ⟨w2.heap.size,0,none⟩ 1 1 [.string (bs nm)] (by simp[Act.eval]) rfl ?news (by intro u U;simp at U;subst U;rfl) (by unfold maxLen;omega) (by omega) (by simp;omega) ?_;(case own=>(first|exact f.out.alloc _|exact(f.out.alloc _).drew|exact f.out));(case news=>(intro j u E;rw[Addr.add_lit];cases j with|zero=>(simp at E;subst E;first|exact(za (zo w2 _)).trans rfl|exact(za (zo w2.drew _)).trans rfl)|succ j=>simp at E));intro v3 i q s H;obtain⟨C,c3,W⟩:=zw q;subst W;have D:i.heap[a]?=some (.cells #[.slice t l.length y] 25 (0,0)):=(s.block a (by simp;omega) (fun e=>Nat.lt_irrefl _ (f.out.lt a e.symm).1)).trans ((Below.heap_alloc w2 _ a V).trans B.out);have n3:i.cell? ⟨a,0,none⟩=some (.slice t l.length y):=(za D).trans rfl;have z3:i.frozen? ⟨a,0,none⟩=false:=zi D;have z:Hid (Below a w2 (i.setCell ⟨a,0,none⟩ (.slice C (l.length+1) c3))/\UseSt (i.setCell ⟨a,0,none⟩ (.slice C (l.length+1) c3)) ob a md (l++[nm])/\UseK a w2 (i.setCell ⟨a,0,none⟩ (.slice C (l.length+1) c3))):=(by first|exact UseSt.shown K.out (zb _ _) B.out q s H f.out|exact UseSt.shown K.out ((zb _ _).drew) B.out q s H f.out);clear q s H D))
 all_goals
  exact bodyPost_end (results_none rfl _ _ _) rfl ⟨rfl,(I.out.mono (by omega)).trans z.out.1,z.out.2.1,(UseK.below I.out M).trans z.out.2.2⟩
def AskU (w:World) (ob nb:Nat) (of:Bs) (v:Value) (add:List Bs):Prop:=∀W l,Below nb w W->nb<=w.heap.size->UseSt W ob nb of l->l.length+add.length<=100000->Calls Tryz.prog 177 #[v,usedV ob nb] W (UseP W ob nb of (l++add))
theorem ko {w:World}{ob a:Nat}{of:Bs}{l:List Bs}(h:UseSt w ob a of l):Calls Tryz.prog 177 #[.pointer none,usedV ob a] w (UseP w ob a of (l++[])):=by
 rw[List.append_nil]
 have b:=zh h
 clear h
 unfold usedV
 go_enter Tryz.func177,Tryz.ntmps177
 go_wp2_with fail
 exact bodyPost_end (results_none rfl _ _ _) rfl ⟨rfl,Below.refl _ _,b.out,UseK.below (Below.refl _ _) (by obtain⟨v,d,_⟩:=b.out.c;exact zf d)⟩
def addTo (f:Nat->List Bs) (i:Nat):List Bs:=((List.range i).map f).flatten
theorem yt (f:Nat->List Bs)(i:Nat):addTo f (i+1)=addTo f i++f i:=by
 unfold addTo
 rw[List.range_succ,List.map_append,List.flatten_append]
 simp
theorem vf (f:Nat->List Bs){i n:Nat}(h:i<=n):(addTo f i).length<=(addTo f n).length:=by
 obtain⟨k,rfl⟩:=Nat.exists_eq_add_of_le h
 clear h
 induction k with
 |zero=>exact Nat.le_refl _
 |succ k ih=>rw[<-Nat.add_assoc,yt,List.length_append];omega
theorem jT {w:World}{b:Nat}{e f g i j k a c d:Value}{t:TypeId}(h:w.heap[b]?=some (.cells #[e,f,g,i,j,k,a,c,d] t (0,0))):w.cell? ⟨b,6,none⟩=some a/\w.cell? ⟨b,7,none⟩=some c/\w.cell? ⟨b,8,none⟩=some d:=⟨(za h).trans rfl,(za h).trans rfl,(za h).trans rfl⟩
theorem jN {w:World}{ob d x code:Nat}{of:Bs}{l:List Bs}{pos n:Int}{md nm op:ByteArray}{D E aa:Option Addr}{f ac:Nat}(H:w.heap[x]?=some (.cells #[.int .i64 (code:Int),.int .i64 pos,.int .i64 n,.string md,.string nm,.string op,.pointer D,.pointer E,.slice aa f ac] 216 (0,0)))(C:x<d)(c3:d<w.heap.size)
  {o h j:List Bs}{ra:Nat->List Bs}(_hu:UseSt w ob d of l)(I:(l++o++h++j++addTo ra f).length<=100000)
  (h0:Calls Tryz.prog 123 #[.pointer (some ⟨x,0,none⟩),.pointer (some ⟨ob,0,none⟩),.pointer (some ⟨d,0,none⟩)] w (UseP w ob d of (l++o)))
  (s:AskU w ob d of (.pointer D) h)(q:AskU w ob d of (.pointer E) j)
  (hA:∀i,i<f->∃g y,aa=some ⟨g,0,none⟩/\g<d/\w.cell? ⟨g,i,none⟩=some (.pointer (some ⟨y,0,none⟩))/\AskU w ob d of (.pointer (some ⟨y,0,none⟩)) (ra i))(c1:f<=9223372036854775807) :
  Calls Tryz.prog 177 #[.pointer (some ⟨x,0,none⟩),usedV ob d] w (UseP w ob d of (l++o++h++j++addTo ra f)):=by
 have v:=zh H
 have H0:=zh h0
 have H1:Hid (∀W l,Below d w W->UseSt W ob d of l->l.length+h.length<=100000->Calls Tryz.prog 177 #[.pointer D,.func (.func 123) #[] #[.pointer (some ⟨ob,0,none⟩),.pointer (some ⟨d,0,none⟩)]] W (UseP W ob d of (l++h))):=fun W l a b c=>s W l a (by omega) b c
 have H2:Hid (∀W l,Below d w W->UseSt W ob d of l->l.length+j.length<=100000->Calls Tryz.prog 177 #[.pointer E,.func (.func 123) #[] #[.pointer (some ⟨ob,0,none⟩),.pointer (some ⟨d,0,none⟩)]] W (UseP W ob d of (l++j))):=fun W l a b c=>q W l a (by omega) b c
 have HA:=zh hA
 have t:=zh I
 have b8:(f:Int)<=9223372036854775807:=by omega
 have c7:x<w.heap.size:=by omega
 clear H h0 s q hA I _hu
 unfold usedV
 go_enter Tryz.func177,Tryz.ntmps177
 go_wp2_with fail
 refine H0.out.mono ?_
 rintro e w1⟨rfl,r,Y,T⟩
 have a8:=zh T
 have a6:=zh r
 have Q:=H1.out w1 _ r Y (by have:=t.out;simp only[List.length_append]at this ⊢;omega)
 have K:=zh Q
 have z:=(r.block x C).trans v.out
 obtain⟨p6,p7,p8⟩:=jT z
 have c4:x<w1.heap.size:=zf z
 clear r Y Q z H0 H1 T
 go_wp2_with fail
 refine K.out.mono ?_
 rintro e w2⟨rfl,N,Z,U⟩
 have a9:=zh (a8.out.trans U)
 have u:Hid (Below d w w2):=a6.out.trans N
 have R:=H2.out w2 _ u.out Z (by have:=t.out;simp only[List.length_append]at this ⊢;omega)
 have L:=zh R
 have A:=(u.out.block x C).trans v.out
 obtain⟨q6,q7,q8⟩:=jT A
 have c5:x<w2.heap.size:=zf A
 clear N Z R A H2 K p6 p7 p8 U
 go_wp2_with fail
 refine L.out.mono ?_
 rintro e w3⟨rfl,O,a3,V⟩
 have b0:=zh (a9.out.trans V)
 have J:Hid (Below d w w3):=u.out.trans O
 have b2:=zh a3
 have B:=(J.out.block x C).trans v.out
 obtain⟨r6,r7,r8⟩:=jT B
 have c6:x<w3.heap.size:=zf B
 clear O a3 B L q6 q7 q8 V
 go_wp2_with fail
 go_loopg [28] f (fun k vi wr=>∃i:Nat,i<=f/\k=f-i/\vi=.int .i64 (i:Int)/\Hid (Below d w wr)/\Hid (UseSt wr ob d of (l++o++h++j++addTo ra i))/\Hid (UseK d w wr))
 case atStart=>exact⟨0,by omega,by omega,rfl,J,by unfold Hid;simpa[addTo] using b2.out,b0⟩
 case round =>
  obtain⟨i,c2,hk,rfl,m,HU,M⟩:=hrel
  have c0:=m.out.size
  by_cases b7:i<f
  ·have a5:(i:Int)<(f:Int):=by omega
   obtain⟨g,y,b4,b6,S,G⟩:=HA.out i b7
   have kc:wr.cell? ⟨g,i,none⟩=some (.pointer (some ⟨y,0,none⟩)):=(m.out.cell (p:=⟨g,i,none⟩) b6).trans S
   have b9:g<wr.heap.size:=by omega
   subst b4
   have F:=G wr _ m.out (by omega) HU.out (by
    have s:=t.out
    have q:=vf ra (show i+1<=f by omega)
    rw[yt]at q
    simp only[List.length_append]at s q ⊢
    omega)
   have HC:Hid (Calls Tryz.prog 177 #[.pointer (some ⟨y,0,none⟩),.func (.func 123) #[] #[.pointer (some ⟨ob,0,none⟩),.pointer (some ⟨d,0,none⟩)]] wr (UseP wr ob d of (l++o++h++j++addTo ra (i+1)))):=by
    unfold Hid
    rw[yt,<-List.append_assoc]
    exact F
   clear S G F
   go_wp2_with fail
   refine HC.out.mono ?_
   rintro e w4⟨rfl,P,a4,X⟩
   have b1:=zh (M.out.trans X)
   have a7:Hid (Below d w w4):=m.out.trans P
   have b3:=zh a4
   clear P a4 HC X
   go_wp2_with fail
   go_roundg (f-(i+1))
   case measure=>omega
   case rel=>exact⟨i+1,by omega,rfl,by go_num,a7,b3,b1⟩
  ·have a5:¬(i:Int)<(f:Int):=by omega
   have b5:i=f:=by omega
   subst b5
   go_wp2_with fail
   exact bodyPost_end (results_none rfl _ _ _) rfl ⟨rfl,m.out,by have:=HU.out;simp only[List.append_assoc]at this ⊢;exact this,M.out⟩
theorem us_rx (of:Bs):∀(a:List X),addTo (fun i=>((a[i]?).map fun y=>Tp.us of (Tp.rx [y])).getD []) a.length=Tp.us of (Tp.rx a):=by
 intro a
 induction a with
 |nil=>simp[addTo,Tp.rx,Tp.us]
 |cons x l ih =>
  rw[kY,Tp.us_app,<-ih]
  unfold addTo
  rw[List.length_cons,List.range_succ_eq_map,List.map_cons,List.flatten_cons,List.map_map]
  have b:((fun i=>(((x :: l)[i]?).map fun y=>Tp.us of (Tp.rx [y])).getD []) ∘ Nat.succ)=fun i=>((l[i]?).map fun y=>Tp.us of (Tp.rx [y])).getD []:=by
   funext i
   simp
  rw[b]
  simp
theorem jY {ob k:Nat}{of:Bs}:∀(n:Nat) (x:X),SizeOf.sizeOf x<=n->∀(w:World) (D:Nat->Prop) (C:Nat),(∀b,D b->b<k)->k<w.heap.size->RepL w D [x] [.pointer (some ⟨C,0,none⟩)] ->
  AskU w ob k of (.pointer (some ⟨C,0,none⟩)) (Tp.us of (Tp.rx [x])):=by
 intro n
 induction n with
 |zero=>intro x H;cases x;simp at H
 |succ n ih =>
  intro x H w D C m a7 h W b3 K _ I E
  have hk:∀b,D b->b<w.heap.size->W.heap[b]?=w.heap[b]?/\D b:=fun b S _=>⟨K.block b (m b S),S⟩
  have h:=RepL.mono hk _ _ _ zn h
  have F:k<W.heap.size:=Nat.lt_of_lt_of_le a7 K.size
  obtain⟨code,pos,T,md,nm,U,B,ri,c⟩:=x
  simp at H
  rw[RepL]at h
  obtain⟨b',av,ls,rs,gs,b4,o,p,u,h4,h5,h6,h7,P,h9,_⟩:=h
  injection o with h1a _
  injection h1a with h1b
  injection h1b with h1c
  injection h1c with h1d
  subst h1d
  have L:=RepL.len _ _ P
  have a9:=rx_one code pos T md nm U B ri c
  have J:∀(l:List X) (vs:List Value),SizeOf.sizeOf l<=n->RepL W D l vs->vs.length<=1->(∃a,vs.headD (.pointer none)=.pointer a)/\AskU W ob k of (vs.headD (.pointer none)) (Tp.us of (Tp.rx l)):=by
   intro l vs hl f a0
   have N:=RepL.len _ _ f
   match l,vs,f with
   |[],vs,f =>
    rw[RepL]at f
    subst f
    refine⟨⟨none,rfl⟩,fun W' l' _ _ b1 _=>?_⟩
    have:Tp.us of (Tp.rx [])=[]:=by simp[Tp.rx,Tp.us]
    rw[this]
    exact ko b1
   |[y],vs,f =>
    obtain⟨r,s,O⟩:=RepL.get _ _ f 0 (by simp)
    have hv:vs=[.pointer (some ⟨r,0,none⟩)]:=by
     match vs,a0,N with
     |[v],_,_=>simp at s;rw[s]
    subst hv
    exact⟨⟨_,rfl⟩,ih y (by simp at hl;omega) W D r m F f⟩
   |y :: z :: t,vs,f=>simp at N;omega
  obtain⟨⟨lv,a6⟩,Q⟩:=J B ls (by omega) h4 h5
  obtain⟨⟨rv,a8⟩,R⟩:=J ri rs (by omega) h6 h7
  rw[a6]at u Q
  rw[a8]at u R
  have Z:∃G ac,av=.slice G c.length ac/\c.length<=9223372036854775807/\∀i,i<c.length->∃g,G=some ⟨g,0,none⟩/\g<k/\W.cell? ⟨g,i,none⟩=gs[i]?:=by
   rcases h9 with⟨o,p⟩|⟨g,cap,cur,o,p,q3,q4,q5,q6,q7⟩
   ·have:c.length=0:=by rw[<-L,o];rfl
    exact⟨none,0,by rw[this];exact p,by omega,fun i j=>by omega⟩
   ·refine⟨_,cap,by rw[<-L];exact o,?_,fun i j=>⟨g,rfl,m g p,?_⟩⟩
    ·have:maxLen=9223372036854775807:=rfl
     omega
    ·rw[za q3,<-Array.getElem?_toList,<-q7,List.getElem?_take_of_lt (by omega)]
  obtain⟨G,ac,rfl,Y,V⟩:=Z
  have b2:Tp.us of (Tp.rx [(⟨code,pos,T,md,nm,U,B,ri,c⟩:X)])=(if (code=2\/code=3\/code=6)/\md=of then [nm] else [])++(Tp.us of (Tp.rx B)++(Tp.us of (Tp.rx ri)++Tp.us of (Tp.rx c))):=by
   rw[a9,Tp.us_app,Tp.us_app,Tp.us_app]
   congr 1
   by_cases d:code=2\/code=3\/code=6
   ·rw[if_pos d]
    by_cases A:md=of
    ·rw[if_pos ⟨d,A⟩];simp[Tp.us,A]
    ·rw[if_neg (fun q=>A q.2)];simp[Tp.us,A]
   ·rw[if_neg d,if_neg (fun q=>d q.1)];rfl
  have M:RefB W C ⟨code,pos,md,nm,c.length⟩:=⟨_,_,_,_,_,_,u⟩
  rw[b2]at E ⊢
  rw[<-us_rx of c]at E ⊢
  rw[<-List.append_assoc,<-List.append_assoc,<-List.append_assoc]
  refine jN u (m _ p) F I ?_ ?_ Q R ?_ Y
  ·simp only[List.length_append]at E ⊢
   omega
  ·by_cases d:(code=2\/code=3\/code=6)/\md=of
   ·rw[if_pos d]
    exact show_yes I M d.1 d.2 (by omega)
   ·rw[if_neg d,List.append_nil]
    exact show_not I M d
  ·intro i j
   obtain⟨g,s,O,a3⟩:=V i j
   obtain⟨r,a4,a5⟩:=RepL.get _ _ P i j
   refine⟨g,r,s,O,a3.trans a4,?_⟩
   have e:((c[i]?).map fun y=>Tp.us of (Tp.rx [y])).getD []=Tp.us of (Tp.rx [c[i]]):=by rw[List.getElem?_eq_getElem j];rfl
   rw[e]
   have b0:SizeOf.sizeOf c[i]<=n:=by
    have:=List.sizeOf_lt_of_mem (List.getElem_mem j)
    omega
   exact ih c[i] b0 W D r m F a5
end Go.Proofs.YtibncofnnlbmcaaGreatDoor
namespace Go.Proofs.YtibncofnnlbmcaaGreatDoor
open Go.RowKit Go.Maps
open Tp (Bs X S Pr)
def AskUS (w:World) (ob nb:Nat) (of:Bs) (v:Value) (add:List Bs):Prop:=∀W l,Below nb w W->nb<=w.heap.size->UseSt W ob nb of l->l.length+add.length<=100000->Calls Tryz.prog 152 #[v,usedV ob nb] W (UseP W ob nb of (l++add))
structure Us1 (w:World) (ob nb:Nat) (of:Bs) (a:Option Addr) (i:Nat) (q:List Bs):Prop where
 out:∃(g code:Nat) (pos:Int) (nm:ByteArray) (iv vv ta ea:Option Addr) (tn tc en ec:Nat) (r1 r2 r3 r4:List Bs),a=some ⟨g,0,none⟩/\g<nb /\
  w.cell? ⟨g,i*7,none⟩=some (.int .i64 (code:Int))/\w.cell? ⟨g,i*7+1,none⟩=some (.int .i64 pos)/\w.cell? ⟨g,i*7+2,none⟩=some (.string nm)/\w.cell? ⟨g,i*7+3,none⟩=some (.pointer iv)/\w.cell? ⟨g,i*7+4,none⟩=some (.pointer vv)/\w.cell? ⟨g,i*7+5,none⟩=some (.slice ta tn tc)/\w.cell? ⟨g,i*7+6,none⟩=some (.slice ea en ec) /\
  AskU w ob nb of (.pointer iv) r1/\AskU w ob nb of (.pointer vv) r2/\AskUS w ob nb of (.slice ta tn tc) r3/\AskUS w ob nb of (.slice ea en ec) r4/\q=r1++r2++r3++r4
theorem jp {w:World}{ob d:Nat}{of:Bs}{l:List Bs}{a:Option Addr}{n c:Nat}{q:Nat->List Bs}(hq:∀i,i<n->Us1 w ob d of a i (q i))(hn:n<=9223372036854775807)(d1:d<w.heap.size)(hu:UseSt w ob d of l)(Q:(l++addTo q n).length<=100000) :
  Calls Tryz.prog 152 #[.slice a n c,usedV ob d] w (UseP w ob d of (l++addTo q n)):=by
 have HQ:=zh hq
 have b8:Hid (UseSt w ob d of (l++addTo q 0)):=by unfold Hid;simpa[addTo] using hu
 have b5:=zh Q
 have e5:(n:Int)<=9223372036854775807:=by omega
 clear hq hu Q
 have S:Hid (∀W v l s,AskU w ob d of v s->Below d w W->UseSt W ob d of l->l.length+s.length<=100000->Calls Tryz.prog 177 #[v,.func (.func 123) #[] #[.pointer (some ⟨ob,0,none⟩),.pointer (some ⟨d,0,none⟩)]] W (UseP W ob d of (l++s))):=fun W v l s h a b c=>h W l a (by omega) b c
 have R:Hid (∀W v l s,AskUS w ob d of v s->Below d w W->UseSt W ob d of l->l.length+s.length<=100000->Calls Tryz.prog 152 #[v,.func (.func 123) #[] #[.pointer (some ⟨ob,0,none⟩),.pointer (some ⟨d,0,none⟩)]] W (UseP W ob d of (l++s))):=fun W v l s h a b c=>h W l a (by omega) b c
 unfold usedV
 go_enter Tryz.func152,Tryz.ntmps152
 go_wp2_with fail
 go_loopg [8] n (fun k vi wr=>∃i:Nat,i<=n/\k=n-i/\vi=.int .i64 (i:Int)/\Hid (Below d w wr)/\Hid (UseSt wr ob d of (l++addTo q i))/\Hid (UseK d w wr))
 case atStart=>exact⟨0,by omega,by omega,rfl,Below.refl _ _,b8,UseK.below (Below.refl _ _) d1⟩
 case round =>
  obtain⟨i,e4,hk,rfl,A,I,Y⟩:=hrel
  have e3:=A.out.size
  by_cases d0:i<n
  ·have b6:(i:Int)<(n:Int):=by omega
   obtain⟨g,code,pos,nm,iv,vv,ta,ea,tn,tc,en,ec,r1,r2,r3,r4,b9,c8,c0,c1,c2,c3,c4,c5,c6,a1,a2,a3,a4,E⟩:=(HQ.out i d0).out
   subst b9
   have t:∀(o:Nat) (u:Value),w.cell? ⟨g,o,none⟩=some u->wr.cell? ⟨g,o,none⟩=some u:=fun o u h=>(A.out.cell (p:=⟨g,o,none⟩) c8).trans h
   have d2:=t _ _ c0
   have d3:=t _ _ c1
   have d4:=t _ _ c2
   have d5:=t _ _ c3
   have d6:=t _ _ c4
   have d7:=t _ _ c5
   have d8:=t _ _ c6
   have e2:g<wr.heap.size:=by omega
   have y:Hid ((l++addTo q i).length+(r1.length+r2.length+r3.length+r4.length)<=100000):=by
    have h1:=b5.out
    have h2:=vf q (show i+1<=n by omega)
    rw[yt,E]at h2
    unfold Hid
    simp only[List.length_append]at h1 h2 ⊢
    omega
   have b7:Hid (l++addTo q i++r1++r2++r3++r4=l++addTo q (i+1)):=by unfold Hid;rw[yt,E];simp
   obtain⟨r,z⟩:∃r,r=wr.alloc (.cells #[.int .i64 (code:Int),.int .i64 pos,.string nm,.pointer iv,.pointer vv,.slice ta tn tc,.slice ea en ec] 181):=⟨_,rfl⟩
   have x:Below wr.heap.size wr r:=by rw[z];exact zb _ _
   have M:Hid (Below d w r):=A.out.trans (x.mono (by omega))
   have b0:=zh (I.out.on x)
   have a5:=zh (Y.out.trans (UseK.below x (by omega)))
   have Z:Hid (¬OwnN r d wr.heap.size):=fun ⟨v,q1,q2⟩=>by
    obtain⟨v0,z1,z2⟩:=I.out.c
    have e0:r.cell? ⟨d,0,none⟩=some v0:=(x.cell (p:=⟨d,0,none⟩) (by simp;omega)).trans ((za z1).trans rfl)
    rw[e0]at q1
    cases q1
    have:=(z2.lt _ q2).2
    omega
   have D:Hid (r.heap[wr.heap.size]?=some (.cells #[.int .i64 (code:Int),.int .i64 pos,.string nm,.pointer iv,.pointer vv,.slice ta tn tc,.slice ea en ec] 181 (0,0))):=by rw[z];exact zo _ _
   have A1:=zh a1
   have A2:=zh a2
   have A3:=zh a3
   have A4:=zh a4
   clear c0 c1 c2 c3 c4 c5 c6 t a1 a2 a3 a4 E x
   generalize c9:l++addTo q i=la at *
   clear c9
   go_upto_region 3 with fail
   rw[<-z]
   clear z d2 d3 d4 d5 d6 d7 d8
   have m3:r.cell? ⟨wr.heap.size,3,none⟩=some (.pointer iv):=(za D.out).trans rfl
   have F:wr.heap.size<r.heap.size:=zf D.out
   have T:=zh (S.out r _ _ _ A1.out M.out b0.out (by have:=y.out;(try simp only[List.length_append]);omega))
   go_wp2_with fail
   refine T.out.mono ?_
   rintro e x1⟨rfl,j,m,f⟩
   have a6:=zh (a5.out.trans f)
   have N:Hid (Below d w x1):=M.out.trans j
   have b1:=zh m
   have B:Hid (x1.heap[wr.heap.size]?=some (.cells #[.int .i64 (code:Int),.int .i64 pos,.string nm,.pointer iv,.pointer vv,.slice ta tn tc,.slice ea en ec] 181 (0,0))):=(f.k _ F (by omega) Z.out).1.trans D.out
   have J:=zh (f.k _ F (by omega) Z.out).2
   clear j m f m3 F T
   have m4:x1.cell? ⟨wr.heap.size,4,none⟩=some (.pointer vv):=(za B.out).trans rfl
   have G:wr.heap.size<x1.heap.size:=zf B.out
   have U:=zh (S.out x1 _ _ _ A2.out N.out b1.out (by have:=y.out;(try simp only[List.length_append]);omega))
   go_wp2_with fail
   refine U.out.mono ?_
   rintro e x2⟨rfl,j,m,f⟩
   have a7:=zh (a6.out.trans f)
   have O:Hid (Below d w x2):=N.out.trans j
   have b2:=zh m
   have C:Hid (x2.heap[wr.heap.size]?=some (.cells #[.int .i64 (code:Int),.int .i64 pos,.string nm,.pointer iv,.pointer vv,.slice ta tn tc,.slice ea en ec] 181 (0,0))):=(f.k _ G (by omega) J.out).1.trans B.out
   have K:=zh (f.k _ G (by omega) J.out).2
   clear j m f m4 G U
   have m5:x2.cell? ⟨wr.heap.size,5,none⟩=some (.slice ta tn tc):=(za C.out).trans rfl
   have H:wr.heap.size<x2.heap.size:=zf C.out
   have V:=zh (R.out x2 _ _ _ A3.out O.out b2.out (by have:=y.out;(try simp only[List.length_append]);omega))
   go_wp2_with fail
   refine V.out.mono ?_
   rintro e x3⟨rfl,j,m,f⟩
   have a8:=zh (a7.out.trans f)
   have P:Hid (Below d w x3):=O.out.trans j
   have b3:=zh m
   have L:Hid (x3.heap[wr.heap.size]?=some (.cells #[.int .i64 (code:Int),.int .i64 pos,.string nm,.pointer iv,.pointer vv,.slice ta tn tc,.slice ea en ec] 181 (0,0))):=(f.k _ H (by omega) K.out).1.trans C.out
   have e1:=zh (f.k _ H (by omega) K.out).2
   clear j m f m5 H V
   have m6:x3.cell? ⟨wr.heap.size,6,none⟩=some (.slice ea en ec):=(za L.out).trans rfl
   have d9:wr.heap.size<x3.heap.size:=zf L.out
   have X:=zh (R.out x3 _ _ _ A4.out P.out b3.out (by have:=y.out;(try simp only[List.length_append]);omega))
   go_wp2_with fail
   refine X.out.mono ?_
   rintro e x4⟨rfl,j,m,f⟩
   have a9:=zh (a8.out.trans f)
   have a0:Hid (Below d w x4):=P.out.trans j
   have b4:=zh m
   clear j m f m6 d9 X
   go_wp2_with fail
   go_roundg (n-(i+1))
   case measure=>omega
   case rel=>exact⟨i+1,by omega,rfl,by go_num,a0,by unfold Hid;rw[<-b7.out];exact b4.out,a9⟩
  ·have b6:¬(i:Int)<(n:Int):=by omega
   have c7:i=n:=by omega
   subst c7
   go_wp2_with fail
   exact bodyPost_end (results_none rfl _ _ _) rfl ⟨rfl,A.out,I.out,Y.out⟩
theorem us_rs (of:Bs):∀(a:List S),addTo (fun i=>((a[i]?).map fun y=>Tp.us of (Tp.rs [y])).getD []) a.length=Tp.us of (Tp.rs a):=by
 intro a
 induction a with
 |nil=>simp[addTo,Tp.rs,Tp.us]
 |cons x l ih =>
  rw[jA,Tp.us_app,<-ih]
  unfold addTo
  rw[List.length_cons,List.range_succ_eq_map,List.map_cons,List.flatten_cons,List.map_map]
  have b:((fun i=>(((x :: l)[i]?).map fun y=>Tp.us of (Tp.rs [y])).getD []) ∘ Nat.succ)=fun i=>((l[i]?).map fun y=>Tp.us of (Tp.rs [y])).getD []:=by
   funext i
   simp
  rw[b]
  simp
theorem part_use {w:World}{ob d:Nat}{of:Bs}(i:d<w.heap.size){D:Nat->Prop}(k:∀b,D b->b<d)(l:List X)(vs:List Value)(c:RepL w D l vs)(h:vs.length<=1) :
  (∃a,vs.headD (.pointer none)=.pointer a)/\AskU w ob d of (vs.headD (.pointer none)) (Tp.us of (Tp.rx l)):=by
 have e:=RepL.len _ _ c
 match l,vs,c with
 |[],vs,c =>
  rw[RepL]at c
  subst c
  refine⟨⟨none,rfl⟩,fun n p _ _ j _=>?_⟩
  have:Tp.us of (Tp.rx [])=[]:=by simp[Tp.rx,Tp.us]
  rw[this]
  exact ko j
 |[y],vs,c =>
  obtain⟨g,f,o⟩:=RepL.get _ _ c 0 (by simp)
  have m:vs=[.pointer (some ⟨g,0,none⟩)]:=by
   match vs,h,e with
   |[v],_,_=>simp at f;rw[f]
  subst m
  exact⟨⟨_,rfl⟩,jY _ y zn w D g k i c⟩
 |y :: z :: t,vs,c=>simp at e;omega
theorem yO {ob o:Nat}{of:Bs}(Y:of≠[]):∀(n:Nat) (l:List S),SizeOf.sizeOf l<=n->∀(w:World) (D:Nat->Prop) (v:Value) (cs:List Value),(∀b,D b->b<o)->o<w.heap.size->RepS w D l cs->OwnS w D v l.length cs ->
  AskUS w ob o of v (Tp.us of (Tp.rs l)):=by
 intro n
 induction n with
 |zero=>intro l K;cases l<;>simp at K<;>omega
 |succ n ih =>
  intro l K w D v cs h X x u W a1 F _ hu B
  have J:∀b,D b->b<w.heap.size->W.heap[b]?=w.heap[b]?/\D b:=fun b I _=>⟨F.block b (h b I),I⟩
  have x:=x.mono' J
  have u:=u.mono J
  have k:o<W.heap.size:=Nat.lt_of_lt_of_le X F.size
  rw[<-us_rs]at B ⊢
  have T:∃a c,v=.slice a l.length c/\l.length<=9223372036854775807/\∀i,i<l.length->∃g,a=some ⟨g,0,none⟩/\g<o/\∀j,j<7->W.cell? ⟨g,i*7+j,none⟩=cs[i*7+j]?:=by
   rcases u with⟨f,p⟩|⟨g,cap,cur,f,p,z,L,M,N,s⟩
   ·exact⟨none,0,by rw[p];exact f,by omega,fun i m=>by omega⟩
   ·refine⟨_,cap,f,?_,fun i m=>⟨g,rfl,h g p,fun j y=>?_⟩⟩
    ·have:maxLen=9223372036854775807:=rfl
     omega
    ·rw[za z,<-Array.getElem?_toList,<-s,List.getElem?_take_of_lt (by omega)]
  obtain⟨a,c,rfl,V,P⟩:=T
  refine jp (fun i m=>?_) V k hu (by simpa only [List.length_append] using B)
  rcases hx:l[i] with⟨code,pos,nm,r,A,t,q⟩
  have H:l[i]?=some ⟨code,pos,nm,r,A,t,q⟩:=by rw[List.getElem?_eq_getElem m,hx]
  obtain⟨tv,ev,ls,vs,a0,Q,f,p,z,L,M,N,s,q8,O⟩:=RepS.get _ _ x i code pos nm r A t q H
  obtain⟨g,g1,g2,g3⟩:=P i m
  have G:SizeOf.sizeOf l[i]<SizeOf.sizeOf l:=List.sizeOf_lt_of_mem (List.getElem_mem m)
  rw[hx]at G
  simp at G
  obtain⟨⟨iv,U⟩,C⟩:=part_use (ob:=ob) (of:=of) k h r ls p z
  obtain⟨⟨vv,Z⟩,E⟩:=part_use (ob:=ob) (of:=of) k h A vs L M
  obtain⟨ta,tc,rfl⟩:=s.shape
  obtain⟨ea,ec,rfl⟩:=O.shape
  rw[U]at C f
  rw[Z]at E f
  have d:=fun j (y:j<7)=>(g3 j y).trans (f j y)
  refine⟨g,code,pos,bs nm,iv,vv,ta,ea,t.length,tc,q.length,ec,_,_,_,_,g1,g2,d 0 (by omega),d 1 (by omega),d 2 (by omega),d 3 (by omega),d 4 (by omega),d 5 (by omega),d 6 (by omega),C,E,ih t (by omega) W D _ a0 h k N s,ih q (by omega) W D _ Q h k q8 O,?_⟩
  rw[H,Option.map_some,Option.getD_some,rs_one,Tp.us_app,Tp.us_app,Tp.us_app,Tp.us_app]
  have e0:Tp.us of (if code=1 then [(⟨if r.isEmpty then 2 else 3,pos,[],nm,0⟩:Tp.R)] else [])=[]:=by
   split
   ·have:([]:Bs)≠of:=fun e=>Y e.symm
    simp[Tp.us,this]
   ·rfl
  rw[e0]
  simp
theorem xY {w:World}{ob d:Nat}{of nm:Bs}{l:List Bs}{Y gn pn F ic gc pc E:Nat}{ia ga P D:Option Addr}{q:Nat->List Bs}{G:List Bs}(a5:d<w.heap.size)(hu:UseSt w ob d of l)(a3:(l++addTo q pn++G).length<=100000)
  (hP:∀i,i<pn->∃(g:Nat) (Q:Bs) (x1:Nat) (x2:Bool) (R S t:Option Addr) (N O r c3 M n:Nat),P=some ⟨g,0,none⟩/\g<d/\w.cell? ⟨g,i*6,none⟩=some (.string (bs Q))/\w.cell? ⟨g,i*6+1,none⟩=some (.int .i64 (x1:Int))/\w.cell? ⟨g,i*6+2,none⟩=some (.bool x2)/\w.cell? ⟨g,i*6+3,none⟩=some (.slice R N c3)/\w.cell? ⟨g,i*6+4,none⟩=some (.slice S O M)/\w.cell? ⟨g,i*6+5,none⟩=some (.slice t r n)/\AskUS w ob d of (.slice t r n) (q i))
  (hB:AskUS w ob d of (.slice D F E) G)(e1:pn<=1000) :
  Calls Tryz.prog 122 #[.agg #[.string (bs nm),.slice ia Y ic,.slice ga gn gc,.slice P pn pc,.slice D F E],usedV ob d] w (UseP w ob d of (l++addTo q pn++G)):=by
 obtain⟨f,K⟩:∃f,f=w.alloc (.cells #[.string (bs nm),.slice ia Y ic,.slice ga gn gc,.slice P pn pc,.slice D F E] 36):=⟨_,rfl⟩
 have x:Below w.heap.size w f:=by rw[K];exact zb _ _
 have J:f.heap[w.heap.size]?=some (.cells #[.string (bs nm),.slice ia Y ic,.slice ga gn gc,.slice P pn pc,.slice D F E] 36 (0,0)):=by rw[K];exact zo _ _
 have b8:w.heap.size<f.heap.size:=zf J
 have a6:Hid (¬OwnN f d w.heap.size):=fun ⟨v,q1,q2⟩=>by
  obtain⟨v0,z1,z2⟩:=hu.c
  have e0:f.cell? ⟨d,0,none⟩=some v0:=(x.cell (p:=⟨d,0,none⟩) a5).trans ((za z1).trans rfl)
  rw[e0]at q1
  cases q1
  have:=(z2.lt _ q2).2
  omega
 have b3:Hid (UseSt f ob d of (l++addTo q 0)):=by unfold Hid;simpa[addTo] using hu.on x
 have a8:Hid (Below d w f):=x.mono (by omega)
 have b1:=zh (UseK.below x a5)
 obtain⟨k0,k1,k2,k3,k4⟩:=yd J
 have b0:=zh J
 have HP:=zh hP
 have a9:Hid (∀W l,Below d w W->UseSt W ob d of l->l.length+G.length<=100000->Calls Tryz.prog 152 #[.slice D F E,.func (.func 123) #[] #[.pointer (some ⟨ob,0,none⟩),.pointer (some ⟨d,0,none⟩)]] W (UseP W ob d of (l++G))):=fun W l a b c=>hB W l a (by omega) b c
 have a1:=zh a3
 have d6:(pn:Int)<=1000:=by omega
 clear hP hB a3 x J hu k0 k1 k2 k4
 unfold usedV
 go_enter Tryz.func122,Tryz.ntmps122
 go_upto_region 1 with fail
 rw[<-K]
 clear K
 go_wp2_with fail
 go_loopg [9] pn (fun k vi wr=>∃i:Nat,i<=pn/\k=pn-i/\vi=.int .i64 (i:Int)/\Hid (Below d w wr)/\Hid (UseSt wr ob d of (l++addTo q i))/\Hid (UseK d f wr))
 case atStart=>exact⟨0,by omega,by omega,rfl,a8,b3,UseK.below (Below.refl _ _) (by omega)⟩
 case round =>
  obtain⟨i,d8,hk,rfl,B,HU,H⟩:=hrel
  have d7:=B.out.size
  have c8:=H.out.s
  by_cases b7:i<pn
  ·have a7:(i:Int)<(pn:Int):=by omega
   obtain⟨g,Q,x1,x2,R,S,t,N,O,r,c3,M,n,b4,b6,d0,d1,d2,d3,d4,d5,a2⟩:=HP.out i b7
   subst b4
   have m:∀(o:Nat) (u:Value),w.cell? ⟨g,o,none⟩=some u->wr.cell? ⟨g,o,none⟩=some u:=fun o u h=>(B.out.cell (p:=⟨g,o,none⟩) b6).trans h
   have b9:=m _ _ d0
   have c0:=m _ _ d1
   have c1:=m _ _ d2
   have c2:=m _ _ d3
   have c6:=m _ _ d4
   have c7:=m _ _ d5
   have c9:g<wr.heap.size:=by omega
   obtain⟨j,L⟩:∃j,j=wr.alloc (.cells #[.string (bs Q),.int .i64 (x1:Int),.bool x2,.slice R N c3,.slice S O M,.slice t r n] 65):=⟨_,rfl⟩
   have I:Below wr.heap.size wr j:=by rw[L];exact zb _ _
   have X:j.heap[wr.heap.size]?=some (.cells #[.string (bs Q),.int .i64 (x1:Int),.bool x2,.slice R N c3,.slice S O M,.slice t r n] 65 (0,0)):=by rw[L];exact zo _ _
   have m5:j.cell? ⟨wr.heap.size,5,none⟩=some (.slice t r n):=(za X).trans rfl
   have e2:wr.heap.size<j.heap.size:=zf X
   have a4:Hid (Below d w j):=B.out.trans (I.mono (by omega))
   have b2:=zh (H.out.trans (UseK.below I (by omega)))
   have a0:=a2 j _ a4.out (by omega) (HU.out.on I) (by
    have h1:=a1.out
    have h2:=vf q (show i+1<=pn by omega)
    rw[yt]at h2
    simp only[List.length_append]at h1 h2 ⊢
    omega)
   have C:Hid (Calls Tryz.prog 152 #[.slice t r n,.func (.func 123) #[] #[.pointer (some ⟨ob,0,none⟩),.pointer (some ⟨d,0,none⟩)]] j (UseP j ob d of (l++addTo q (i+1)))):=by
    unfold Hid
    rw[yt,<-List.append_assoc]
    exact a0
   clear d0 d1 d2 d3 d4 d5 m a2 I X a0
   go_upto_region 4 with fail
   rw[<-L]
   clear L b9 c0 c1 c2 c6 c7
   go_wp2_with fail
   refine C.out.mono ?_
   rintro e w2⟨rfl,y,A,z⟩
   have T:Hid (Below d w w2):=a4.out.trans y
   have V:=zh A
   have U:=zh (b2.out.trans z)
   clear y A z C m5
   go_wp2_with fail
   go_roundg (pn-(i+1))
   case measure=>omega
   case rel=>exact⟨i+1,by omega,rfl,by go_num,T,V,U⟩
  ·have a7:¬(i:Int)<(pn:Int):=by omega
   have b5:i=pn:=by omega
   subst b5
   have Z:=(H.out.k w.heap.size b8 (by omega) a6.out).1.trans b0.out
   have m4:=(yd Z).2.2.2.2
   have d9:w.heap.size<wr.heap.size:=zf Z
   have C:=zh (a9.out wr _ B.out HU.out (by have:=a1.out;simp only[List.length_append]at this ⊢;omega))
   clear Z
   go_wp2_with fail
   refine C.out.mono ?_
   rintro e w2⟨rfl,y,A,z⟩
   have T:Hid (Below d w w2):=B.out.trans y
   have V:=zh A
   have U:=zh (b1.out.trans (H.out.trans z))
   clear y A z C m4
   go_wp2_with fail
   exact bodyPost_end (results_none rfl _ _ _) rfl ⟨rfl,T.out,V.out,U.out⟩
end Go.Proofs.YtibncofnnlbmcaaGreatDoor
