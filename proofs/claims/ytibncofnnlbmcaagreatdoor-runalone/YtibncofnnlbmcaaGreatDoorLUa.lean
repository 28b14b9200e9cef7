import Derived.Test.YtibncofnnlbmcaaGreatDoorKPc
import Derived.Test.YtibncofnnlbmcaaGreatDoorLMe
import Derived.Test.YtibncofnnlbmcaaGreatDoorLMf
import Derived.KernelRfl
import Derived.Deep.RegionLawGrows
set_option maxRecDepth 100000
set_option maxHeartbeats 4000000
namespace Tp
theorem rx_count:∀(n:Nat) (l:List X),SizeOf.sizeOf l<=n->WX l->(rx l).length<=NX l:=by
 intro n
 induction n with
 |zero=>intro l f;cases l<;>simp at f<;>omega
 |succ n ih =>
  intro l f h
  cases l with
  |g=>simp[rx]
  |cons x xs =>
   obtain⟨code,pos,q,m,nm,p,e,ri,k⟩:=x
   rw[WX]at h
   simp at f
   obtain⟨j,i⟩:=h
   have o:=ih xs (by omega) i
   rw[rx,NX]
   simp only[List.length_append]
   have r:1<=rN m:=by unfold rN;split<;>omega
   have g:(rx []).length=0:=by simp[rx]
   rcases j with⟨c,_,_,_,_,b,d,a⟩|⟨c,_,h3,_,b,d,a⟩|⟨c,_,h3,_,b,_,d,a⟩|⟨c,_,_,_,_,b,_,d,a⟩|⟨c,_,_,_,_,b,_,d,_,a⟩|⟨c,_,h3,_,b,d,a⟩
   ·subst c;rw[b,d,a];simp[rx];omega
   ·subst c;rw[b,d,a];simp[rx];omega
   ·subst c;have:=ih e (by omega) b;rw[d,a];simp[rx];omega
   ·subst c;have:=ih e (by omega) b;rw[d,a];simp[rx];omega
   ·subst c;have:=ih e (by omega) b;have:=ih ri (by omega) d;rw[a];simp[rx];omega
   ·subst c;have:=ih k (by omega) a;rw[b,d];simp[rx];omega
theorem rs_count:∀(n:Nat) (l:List S),SizeOf.sizeOf l<=n->WS l->(rs l).length<=NS l:=by
 intro n
 induction n with
 |zero=>intro l j;cases l<;>simp at j<;>omega
 |succ n ih =>
  intro l j h
  cases l with
  |nil=>simp[rs]
  |cons x xs =>
   obtain⟨code,pos,nm,k,i,o,m⟩:=x
   rw[WS]at h
   simp at j
   obtain⟨s,r⟩:=h
   have u:=ih xs (by omega) r
   rw[rs,NS]
   simp only[List.length_append]
   have g:ev i->(rx i).length<=NX i:=fun q=>rx_count _ _ (Nat.le_refl _) q.1
   rcases s with⟨c,w,f,e,d,b⟩|⟨c,_,f,e,d,b⟩|⟨c,_,f,e,d,b⟩|⟨c,_,f,e,d,b⟩|⟨c,_,f,e,_,d,b⟩
   ·subst c
    have:=g e
    rw[d,b]
    rcases f with q|q
    ·rw[q];simp[rx,rs];omega
    ·have v:=rx_count _ _ (Nat.le_refl _) q.1
     have p:k.isEmpty=false:=by
      cases k with
      |nil=>simp at q
      |cons a t=>rfl
     simp[rs,p];omega
   ·subst c
    have:=g e;have:=ih o (by omega) d;have:=ih m (by omega) b
    rw[f]
    cases m with
    |nil=>simp[rx,rs];simp[rs]at *;omega
    |cons a t=>simp[rx];omega
   ·subst c
    have:=g e;have:=ih o (by omega) d
    rw[f,b];simp[rx,rs];omega
   ·have:=g e
    rw[f,d,b]
    rcases c with c|c<;>subst c<;>simp[rx,rs]<;>omega
   ·subst c
    have:=g e
    rw[f,d,b];simp[rx,rs];omega
theorem allR_count {m:M}(h:WM m):(allR m).length<=nM m:=by
 unfold allR nM
 have f:=rs_count _ _ (Nat.le_refl _) h.b
 have c:∀(l:List Pr),(∀p∈l,WP p)->((l.map fun p=>rs p.body).flatten).length<=(l.map nP).sum:=by
  intro l
  induction l with
  |nil=>intro _;simp
  |cons p t ih =>
   intro a
   have g:=rs_count _ _ (Nat.le_refl _) (a p (by simp)).b
   have e:=ih (fun q d=>a q (by simp[d]))
   simp only[List.map_cons,List.flatten_cons,List.length_append,List.sum_cons]
   have:NS p.body<=nP p:=by unfold nP;omega
   omega
 have:=c m.procs h.p
 rw[List.length_append]
 omega
def us (of:Bs) (l:List R):List Bs:=(l.filter fun r=>r.mod==of).map (·.name)
theorem us_app (of:Bs)(l m:List R):us of (l++m)=us of l++us of m:=by simp[us]
theorem us_len (of:Bs)(l:List R):(us of l).length<=l.length:=by unfold us;rw[List.length_map];exact List.length_filter_le _ _
theorem us_used {m:M}{of:Bs}(h:of≠[]):us of (allR m)=usedR m of:=by
 unfold us usedR
 have:(of==[])=false:=by simpa using h
 simp[this]
end Tp
namespace Go.Proofs.YtibncofnnlbmcaaGreatDoor
open Go.RowKit Go.Maps
open Tp (Bs X S)
theorem xt {w:World}{x code:Nat}(h:w.cell? ⟨x,0,none⟩=some (.int .i64 (code:Int))):Calls Tryz.prog 124 #[.pointer (some ⟨x,0,none⟩)] w fun e w'=>e=.returned (.bool (decide (code=2\/code=3\/code=6)))/\w'=w:=by
 have a:=zg h
 rcases(show code=2\/code=3\/code=6\/¬(code=2\/code=3\/code=6) by omega) with hcd|hcd|hcd|hcd
 ·subst hcd
  go_enter Tryz.func124,Tryz.ntmps124
  go_wp2_with fail
  go_ret
  exact⟨rfl,rfl⟩
 ·subst hcd
  go_enter Tryz.func124,Tryz.ntmps124
  go_wp2_with fail
  go_ret
  exact⟨rfl,rfl⟩
 ·subst hcd
  go_enter Tryz.func124,Tryz.ntmps124
  go_wp2_with fail
  go_ret
  exact⟨rfl,rfl⟩
 ·have b:((code:Int)==2)=false:=by simp;omega
  have d:((code:Int)==3)=false:=by simp;omega
  have c:((code:Int)==6)=false:=by simp;omega
  rw[decide_eq_false hcd]
  clear hcd
  go_enter Tryz.func124,Tryz.ntmps124
  go_wp2_with fail
  go_ret
  exact⟨rfl,rfl⟩
structure UseSt (w:World) (ob nb:Nat) (of:Bs) (l:List Bs):Prop where
 o:w.cell? ⟨ob,0,none⟩=some (.string (bs of))
 c:∃v,w.heap[nb]?=some (.cells #[v] 25 (0,0))/\w.ownsRow (nb+1) 9 1 v l.length (strs l)
 ne:ob<nb
theorem UseSt.on {w w':World}{ob d:Nat}{of:Bs}{l:List Bs}(h:UseSt w ob d of l)(k:Below w.heap.size w w'):UseSt w' ob d of l:=by
 obtain⟨v,a,e⟩:=h.c
 exact⟨(k.cell (p:=⟨ob,0,none⟩) (zg h.o)).trans h.o,⟨v,(k.block _ (zf a)).trans a,zH e (fun b _ f _=>k.block b f)⟩,h.ne⟩
def OwnN (w:World) (nb k:Nat):Prop:=∃v,w.cell? ⟨nb,0,none⟩=some v/\v.ownBlock=some k
structure UseK (nb:Nat) (w w':World):Prop where
 s:w.heap.size<=w'.heap.size
 k:∀k,k<w.heap.size->k≠nb->¬OwnN w nb k->w'.heap[k]?=w.heap[k]?/\¬OwnN w' nb k
theorem UseK.trans {d:Nat}{e w2 f:World}(h:UseK d e w2)(g:UseK d w2 f):UseK d e f:=⟨Nat.le_trans h.s g.s,fun k a b c=>by
 obtain⟨l,i⟩:=h.k k a b c
 obtain⟨j,m⟩:=g.k k (Nat.lt_of_lt_of_le a h.s) b i
 exact⟨j.trans l,m⟩⟩
theorem UseK.below {b:Nat}{w w':World}(h:Below w.heap.size w w')(f:b<w.heap.size):UseK b w w':=⟨h.size,fun k a _ c=>⟨h.block k a,fun ⟨v,e,d⟩=>c ⟨v,by rw[<-h.cell (p:=⟨b,0,none⟩) f];exact e,d⟩⟩⟩
def UseP (w:World) (ob nb:Nat) (of:Bs) (l:List Bs) (e:Ending) (w':World):Prop:=e=.returned (.tuple #[])/\Below nb w w'/\UseSt w' ob nb of l/\UseK nb w w'
def usedV (ob nb:Nat):Value:=.func (.func 123) #[] #[.pointer (some ⟨ob,0,none⟩),.pointer (some ⟨nb,0,none⟩)]
theorem show_not {w:World}{ob i x:Nat}{of:Bs}{l:List Bs}(h:UseSt w ob i of l){r:Tp.R}(s:RefB w x r)(g:¬((r.code=2\/r.code=3\/r.code=6)/\r.mod=of)) :
  Calls Tryz.prog 123 #[.pointer (some ⟨x,0,none⟩),.pointer (some ⟨ob,0,none⟩),.pointer (some ⟨i,0,none⟩)] w (UseP w ob i of l):=by
 obtain⟨code,pos,md,nm,args⟩:=r
 obtain⟨n,y,z,B,A,ac,a⟩:=s
 simp only at a g
 have u:=zf a
 have p:w.cell? ⟨x,0,none⟩=some (.int .i64 (code:Int)):=(za a).trans rfl
 have c3:w.cell? ⟨x,3,none⟩=some (.string (bs md)):=(za a).trans rfl
 have q:=h.o
 have t:=zg q
 have d:Hid (∀n,Calls Tryz.prog 124 #[.pointer (some ⟨x,0,none⟩)] (w.drewN n) fun e w'=>e=.returned (.bool (decide (code=2\/code=3\/code=6)))/\w'=w.drewN n):=fun n=>xt (w:=w.drewN n) p
 have f:=zh h
 have k:=beq_bs md of
 clear h a
 by_cases b:code=2\/code=3\/code=6
 ·have m:¬md=of:=fun e=>g ⟨b,e⟩
  rw[decide_eq_true b]at d
  rw[decide_eq_false m]at k
  clear g b m
  go_enter Tryz.func123,Tryz.ntmps123
  go_wp2_with fail
  go_quiet ((go_at_call 124;exact Calls.quiet_of_same (d.out _)))
  go_wp2_with fail
  exact bodyPost_end (results_none rfl _ _ _) rfl ⟨rfl,below_drewN (Below.refl _ _) nq,f.out.on (below_drewN (Below.refl _ _) nq),UseK.below (below_drewN (Below.refl _ _) nq) (by obtain⟨v,j,_⟩:=f.out.c;exact zf j)⟩
 ·rw[decide_eq_false b]at d
  clear g b k
  go_enter Tryz.func123,Tryz.ntmps123
  go_wp2_with fail
  go_quiet ((go_at_call 124;exact Calls.quiet_of_same (d.out _)))
  go_wp2_with fail
  exact bodyPost_end (results_none rfl _ _ _) rfl ⟨rfl,below_drewN (Below.refl _ _) nq,f.out.on (below_drewN (Below.refl _ _) nq),UseK.below (below_drewN (Below.refl _ _) nq) (by obtain⟨v,j,_⟩:=f.out.c;exact zf j)⟩
theorem UseSt.shown {w:World}{ob c:Nat}{of:Bs}{l:List Bs}{v d:Value}{nm:Bs}{W w':World}(h:UseSt w ob c of l)(i:Below w.heap.size w W)(r:w.heap[c]?=some (.cells #[v] 25 (0,0)))(B:w'.ownsRow (c+1) 9 1 d (l.length+1) (strs l++[.string (bs nm)]))(j:W.grownBy w' v.ownBlock)(A:∀g,d.ownBlock=some g->v.ownBlock=some g\/W.heap.size<=g)(F:w.ownsRow (c+1) 9 1 v l.length (strs l)) :
  Below c w (w'.setCell ⟨c,0,none⟩ d)/\UseSt (w'.setCell ⟨c,0,none⟩ d) ob c of (l++[nm])/\UseK c w (w'.setCell ⟨c,0,none⟩ d):=by
 have D:=zf r
 have J:=i.size
 have n:∀k,k<w.heap.size->v.ownBlock≠some k->w'.heap[k]?=w.heap[k]?:=fun k f q=>(j.block k (by omega) (fun e=>q e.symm)).trans (i.block k f)
 have t:∀k,v.ownBlock=some k->c+1<=k:=fun k f=>(F.lt k f).1
 have m:Below c w w':=⟨j.os.trans i.os,j.tape.trans i.tape,j.output.trans i.output,Nat.le_trans i.size j.size,fun k f=>n k (by omega) (fun e=>by have:=t k e;omega)⟩
 have z:w'.heap[c]?=some (.cells #[v] 25 (0,0)):=(n c D (fun e=>by have:=t c e;omega)).trans r
 refine⟨zq m zn 0 _,⟨?_,⟨d,?_,?_⟩,h.ne⟩,⟨by simpa using m.size,fun k f q E=>?_⟩⟩
 ·have y:=h.ne
  rw[World.cell?_setCell_far _ _ _ _ (by simp;omega)]
  exact(m.cell (p:=⟨ob,0,none⟩) y).trans h.o
 ·exact zu 0 d z
 ·have G:strs (l++[nm])=strs l++[.string (bs nm)]:=by simp[strs]
  rw[G,List.length_append]
  exact zH B (fun b y _ _=>Below.heap_setCell _ _ _ _ (by simp;omega))
 ·have C:w.cell? ⟨c,0,none⟩=some v:=(za r).trans rfl
  have s:v.ownBlock≠some k:=fun e=>E ⟨v,C,e⟩
  refine⟨?_,fun ⟨u,x,I⟩=>?_⟩
  ·rw[Below.heap_setCell _ _ _ _ (by simpa using q)]
   exact n k f s
  ·have H:(w'.setCell ⟨c,0,none⟩ d).cell? ⟨c,0,none⟩=some d:=(za (zu 0 d z)).trans rfl
   rw[H]at x
   cases x
   rcases A k I with a|a
   ·exact s a
   ·omega
theorem show_yes {w:World}{ob a x:Nat}{of:Bs}{l:List Bs}(h:UseSt w ob a of l){r:Tp.R}(hx:RefB w x r)(F:r.code=2\/r.code=3\/r.code=6)(O:r.mod=of)(P:l.length<=100000) :
  Calls Tryz.prog 123 #[.pointer (some ⟨x,0,none⟩),.pointer (some ⟨ob,0,none⟩),.pointer (some ⟨a,0,none⟩)] w (UseP w ob a of (l++[r.name])):=by
 obtain⟨code,pos,md,nm,args⟩:=r
 obtain⟨n,op,lv,rv,aa,ac,d⟩:=hx
 simp only at d F O
 subst O
 obtain⟨i1,hi,Y,X,a0⟩:=info_parts Tryz.infoString
 have Z:=zf d
 have U:w.cell? ⟨x,0,none⟩=some (.int .i64 (code:Int)):=(za d).trans rfl
 have c3:w.cell? ⟨x,3,none⟩=some (.string (bs md)):=(za d).trans rfl
 have Q:w.cell? ⟨x,4,none⟩=some (.string (bs nm)):=(za d).trans rfl
 have S:=h.o
 have a4:=zg S
 have M:Hid (∀n,Calls Tryz.prog 124 #[.pointer (some ⟨x,0,none⟩)] (w.drewN n) fun e w'=>e=.returned (.bool (decide (code=2\/code=3\/code=6)))/\w'=w.drewN n):=fun n=>xt (w:=w.drewN n) U
 rw[decide_eq_true F]at M
 obtain⟨v,D,z⟩:=h.c
 obtain⟨t,s,rfl⟩:=zw z
 have L:=zf D
 have HU:=zh h
 have HV:=zh D
 have HO:=zh z
 have a5:((bs md).toList==(bs md).toList)=true:=by simp
 clear h d F D z
 go_enter Tryz.func123,Tryz.ntmps123
 go_wp2_with fail
 go_quiet ((go_at_call 124;exact Calls.quiet_of_same (M.out _)))
 go_wp2_with fail
 obtain⟨w2,m⟩:∃w2,w2=w.drewN nq:=⟨_,rfl⟩
 have f:Below w.heap.size w w2:=by rw[m];exact below_drewN (Below.refl _ _) nq
 rw[<-m]
 have I:=HU.out.on f
 have k:=(f.block _ L).trans HV.out
 have J:=zH HO.out (w':=w2) (fun b _ P _=>f.block b P)
 have a2:w2.heap.size=w.heap.size:=by rw[m];rfl
 have d4:w2.cell? ⟨x,4,none⟩=some (.string (bs nm)):=(f.cell (p:=⟨x,4,none⟩) Z).trans Q
 have dn:w2.cell? ⟨a,0,none⟩=some (.slice t l.length s):=(za k).trans rfl
 have zn:w2.frozen? ⟨a,0,none⟩=false:=zi k
 have a1:x<w2.heap.size:=by omega
 have V:a<w2.heap.size:=by omega
 have N:=zh f
 have B:=zh k
 have K:=zh I
 have g:=zh J
 clear m f I k J U c3 Q S
 go_region_law (first|(refine zW rfl (.tmp 14) (.tmp 19) 25 rfl (a+1) 9 i1 (.string ⟨#[]⟩) 1 16 Tryz.underlying25 hi Y X a0 rfl (by decide) (.slice t l.length s) l.length (strs l) (by simp[Act.eval]) ?own ⟨w2.heap.size,0,none⟩ 1 1 [.string (bs nm)] (by simp[Act.eval]) rfl ?news (by intro u T;simp at T;subst T;rfl) (by unfold maxLen;omega) (by omega) (by simp;omega) ?_;(case own=>(first|exact g.out.alloc _|exact(g.out.alloc _).drew|exact g.out));(case news=>(intro j u G;rw[Addr.add_lit];cases j with|zero=>(simp at G;subst G;first|exact(za (zo w2 _)).trans rfl|exact(za (zo w2.drew _)).trans rfl)|succ j=>simp at G));intro v3 i q y H;obtain⟨E,c3,W⟩:=zw q;subst W;have C:i.heap[a]?=some (.cells #[.slice t l.length s] 25 (0,0)):=(y.block a (by simp;omega) (fun e=>Nat.lt_irrefl _ (g.out.lt a e.symm).1)).trans ((Below.heap_alloc w2 _ a V).trans B.out);have n3:i.cell? ⟨a,0,none⟩=some (.slice t l.length s):=(za C).trans rfl;have z3:i.frozen? ⟨a,0,none⟩=false:=zi C;have A:Hid (Below a w2 (i.setCell ⟨a,0,none⟩ (.slice E (l.length+1) c3))/\UseSt (i.setCell ⟨a,0,none⟩ (.slice E (l.length+1) c3)) ob a md (l++[nm])/\UseK a w2 (i.setCell ⟨a,0,none⟩ (.slice E (l.length+1) c3))):=(by first|exact UseSt.shown K.out (zb _ _) B.out q y H g.out|exact UseSt.shown K.out ((zb _ _).drew) B.out q y H g.out);clear q y H C))
 all_goals
  exact bodyPost_end (results_none rfl _ _ _) rfl ⟨rfl,(N.out.mono (by omega)).trans A.out.1,A.out.2.1,(UseK.below N.out L).trans A.out.2.2⟩
def AskU (w:World) (ob nb:Nat) (of:Bs) (v:Value) (add:List Bs):Prop:=∀W l,Below nb w W->nb<=w.heap.size->UseSt W ob nb of l->l.length+add.length<=100000->Calls Tryz.prog 177 #[v,usedV ob nb] W (UseP W ob nb of (l++add))
theorem kh {w:World}{ob a:Nat}{of:Bs}{l:List Bs}(h:UseSt w ob a of l):Calls Tryz.prog 177 #[.pointer none,usedV ob a] w (UseP w ob a of (l++[])):=by
 rw[List.append_nil]
 have b:=zh h
 clear h
 unfold usedV
 go_enter Tryz.func177,Tryz.ntmps177
 go_wp2_with fail
 exact bodyPost_end (results_none rfl _ _ _) rfl ⟨rfl,Below.refl _ _,b.out,UseK.below (Below.refl _ _) (by obtain⟨v,d,_⟩:=b.out.c;exact zf d)⟩
def addTo (f:Nat->List Bs) (i:Nat):List Bs:=((List.range i).map f).flatten
theorem ys (f:Nat->List Bs)(i:Nat):addTo f (i+1)=addTo f i++f i:=by
 unfold addTo
 rw[List.range_succ,List.map_append,List.flatten_append]
 simp
theorem xS (f:Nat->List Bs){i n:Nat}(h:i<=n):(addTo f i).length<=(addTo f n).length:=by
 obtain⟨k,rfl⟩:=Nat.exists_eq_add_of_le h
 clear h
 induction k with
 |zero=>exact Nat.le_refl _
 |succ k ih=>rw[<-Nat.add_assoc,ys,List.length_append];omega
theorem jL {w:World}{b:Nat}{f e i g j k a c d:Value}{t:TypeId}(h:w.heap[b]?=some (.cells #[f,e,i,g,j,k,a,c,d] t (0,0))):w.cell? ⟨b,6,none⟩=some a/\w.cell? ⟨b,7,none⟩=some c/\w.cell? ⟨b,8,none⟩=some d:=⟨(za h).trans rfl,(za h).trans rfl,(za h).trans rfl⟩
theorem jE {w:World}{ob d x code:Nat}{of:Bs}{l:List Bs}{pos n:Int}{md nm op:ByteArray}{D C aa:Option Addr}{f ac:Nat}(G:w.heap[x]?=some (.cells #[.int .i64 (code:Int),.int .i64 pos,.int .i64 n,.string md,.string nm,.string op,.pointer D,.pointer C,.slice aa f ac] 216 (0,0)))(v:x<d)(c7:d<w.heap.size)
  {q j h:List Bs}{ra:Nat->List Bs}(_hu:UseSt w ob d of l)(I:(l++q++j++h++addTo ra f).length<=100000)
  (h0:Calls Tryz.prog 123 #[.pointer (some ⟨x,0,none⟩),.pointer (some ⟨ob,0,none⟩),.pointer (some ⟨d,0,none⟩)] w (UseP w ob d of (l++q)))
  (s:AskU w ob d of (.pointer D) j)(m:AskU w ob d of (.pointer C) h)
  (hA:∀i,i<f->∃g y,aa=some ⟨g,0,none⟩/\g<d/\w.cell? ⟨g,i,none⟩=some (.pointer (some ⟨y,0,none⟩))/\AskU w ob d of (.pointer (some ⟨y,0,none⟩)) (ra i))(c5:f<=9223372036854775807) :
  Calls Tryz.prog 177 #[.pointer (some ⟨x,0,none⟩),usedV ob d] w (UseP w ob d of (l++q++j++h++addTo ra f)):=by
 have E:=zh G
 have H0:=zh h0
 have H1:Hid (∀W l,Below d w W->UseSt W ob d of l->l.length+j.length<=100000->Calls Tryz.prog 177 #[.pointer D,.func (.func 123) #[] #[.pointer (some ⟨ob,0,none⟩),.pointer (some ⟨d,0,none⟩)]] W (UseP W ob d of (l++j))):=fun W l a b c=>s W l a (by omega) b c
 have H2:Hid (∀W l,Below d w W->UseSt W ob d of l->l.length+h.length<=100000->Calls Tryz.prog 177 #[.pointer C,.func (.func 123) #[] #[.pointer (some ⟨ob,0,none⟩),.pointer (some ⟨d,0,none⟩)]] W (UseP W ob d of (l++h))):=fun W l a b c=>m W l a (by omega) b c
 have HA:=zh hA
 have t:=zh I
 have b9:(f:Int)<=9223372036854775807:=by omega
 have c6:x<w.heap.size:=by omega
 clear G h0 s m hA I _hu
 unfold usedV
 go_enter Tryz.func177,Tryz.ntmps177
 go_wp2_with fail
 refine H0.out.mono ?_
 rintro e w1⟨rfl,r,U,T⟩
 have a7:=zh T
 have b6:=zh r
 have Y:=H1.out w1 _ r U (by have:=t.out;simp only[List.length_append]at this ⊢;omega)
 have N:=zh Y
 have z:=(r.block x v).trans E.out
 obtain⟨p6,p7,p8⟩:=jL z
 have c2:x<w1.heap.size:=zf z
 clear r U Y z H0 H1 T
 go_wp2_with fail
 refine N.out.mono ?_
 rintro e w2⟨rfl,O,S,Q⟩
 have a6:=zh (a7.out.trans Q)
 have u:Hid (Below d w w2):=b6.out.trans O
 have Z:=H2.out w2 _ u.out S (by have:=t.out;simp only[List.length_append]at this ⊢;omega)
 have a4:=zh Z
 have A:=(u.out.block x v).trans E.out
 obtain⟨q6,q7,q8⟩:=jL A
 have c4:x<w2.heap.size:=zf A
 clear O S Z A H2 N p6 p7 p8 Q
 go_wp2_with fail
 refine a4.out.mono ?_
 rintro e w3⟨rfl,X,J,R⟩
 have b0:=zh (a6.out.trans R)
 have K:Hid (Below d w w3):=u.out.trans X
 have b5:=zh J
 have B:=(K.out.block x v).trans E.out
 obtain⟨r6,r7,r8⟩:=jL B
 have c1:x<w3.heap.size:=zf B
 clear X J B a4 q6 q7 q8 R
 go_wp2_with fail
 go_loopg [28] f (fun k vi wr=>∃i:Nat,i<=f/\k=f-i/\vi=.int .i64 (i:Int)/\Hid (Below d w wr)/\Hid (UseSt wr ob d of (l++q++j++h++addTo ra i))/\Hid (UseK d w wr))
 case atStart=>exact⟨0,by omega,by omega,rfl,K,by unfold Hid;simpa[addTo] using b5.out,b0⟩
 case round =>
  obtain⟨i,c3,hk,rfl,o,HU,M⟩:=hrel
  have b8:=o.out.size
  by_cases a8:i<f
  ·have a5:(i:Int)<(f:Int):=by omega
   obtain⟨g,y,a9,b1,a3,H⟩:=HA.out i a8
   have kc:wr.cell? ⟨g,i,none⟩=some (.pointer (some ⟨y,0,none⟩)):=(o.out.cell (p:=⟨g,i,none⟩) b1).trans a3
   have c0:g<wr.heap.size:=by omega
   subst a9
   have F:=H wr _ o.out (by omega) HU.out (by
    have s:=t.out
    have m:=xS ra (show i+1<=f by omega)
    rw[ys]at m
    simp only[List.length_append]at s m ⊢
    omega)
   have HC:Hid (Calls Tryz.prog 177 #[.pointer (some ⟨y,0,none⟩),.func (.func 123) #[] #[.pointer (some ⟨ob,0,none⟩),.pointer (some ⟨d,0,none⟩)]] wr (UseP wr ob d of (l++q++j++h++addTo ra (i+1)))):=by
    unfold Hid
    rw[ys,<-List.append_assoc]
    exact F
   clear a3 H F
   go_wp2_with fail
   refine HC.out.mono ?_
   rintro e w4⟨rfl,V,L,P⟩
   have b4:=zh (M.out.trans P)
   have b2:Hid (Below d w w4):=o.out.trans V
   have b3:=zh L
   clear V L HC P
   go_wp2_with fail
   go_roundg (f-(i+1))
   case measure=>omega
   case rel=>exact⟨i+1,by omega,rfl,by go_num,b2,b3,b4⟩
  ·have a5:¬(i:Int)<(f:Int):=by omega
   have b7:i=f:=by omega
   subst b7
   go_wp2_with fail
   exact bodyPost_end (results_none rfl _ _ _) rfl ⟨rfl,o.out,by have:=HU.out;simp only[List.append_assoc]at this ⊢;exact this,M.out⟩
theorem us_rx (of:Bs):∀(a:List X),addTo (fun i=>((a[i]?).map fun y=>Tp.us of (Tp.rx [y])).getD []) a.length=Tp.us of (Tp.rx a):=by
 intro a
 induction a with
 |nil=>simp[addTo,Tp.rx,Tp.us]
 |cons x l ih =>
  rw[kT,Tp.us_app,<-ih]
  unfold addTo
  rw[List.length_cons,List.range_succ_eq_map,List.map_cons,List.flatten_cons,List.map_map]
  have b:((fun i=>(((x :: l)[i]?).map fun y=>Tp.us of (Tp.rx [y])).getD []) ∘ Nat.succ)=fun i=>((l[i]?).map fun y=>Tp.us of (Tp.rx [y])).getD []:=by
   funext i
   simp
  rw[b]
  simp
theorem jP {ob j:Nat}{of:Bs}:∀(n:Nat) (x:X),SizeOf.sizeOf x<=n->∀(w:World) (D:Nat->Prop) (B:Nat),(∀b,D b->b<j)->j<w.heap.size->RepL w D [x] [.pointer (some ⟨B,0,none⟩)] ->
  AskU w ob j of (.pointer (some ⟨B,0,none⟩)) (Tp.us of (Tp.rx [x])):=by
 intro n
 induction n with
 |zero=>intro x G;cases x;simp at G
 |succ n ih =>
  intro x G w D B o a7 h W b3 N _ I E
  have hk:∀b,D b->b<w.heap.size->W.heap[b]?=w.heap[b]?/\D b:=fun b U _=>⟨N.block b (o b U),U⟩
  have h:=RepL.mono hk _ _ _ zn h
  have F:j<W.heap.size:=Nat.lt_of_lt_of_le a7 N.size
  obtain⟨code,pos,O,md,nm,S,s,ri,c⟩:=x
  simp at G
  rw[RepL]at h
  obtain⟨b',av,ls,rs,gs,b4,m,p,A,h4,h5,h6,h7,Q,h9,_⟩:=h
  injection m with h1a _
  injection h1a with h1b
  injection h1b with h1c
  injection h1c with h1d
  subst h1d
  have L:=RepL.len _ _ Q
  have a9:=rx_one code pos O md nm S s ri c
  have J:∀(l:List X) (vs:List Value),SizeOf.sizeOf l<=n->RepL W D l vs->vs.length<=1->(∃a,vs.headD (.pointer none)=.pointer a)/\AskU W ob j of (vs.headD (.pointer none)) (Tp.us of (Tp.rx l)):=by
   intro l vs hl f b1
   have K:=RepL.len _ _ f
   match l,vs,f with
   |[],vs,f =>
    rw[RepL]at f
    subst f
    refine⟨⟨none,rfl⟩,fun W' l' _ _ a0 _=>?_⟩
    have:Tp.us of (Tp.rx [])=[]:=by simp[Tp.rx,Tp.us]
    rw[this]
    exact kh a0
   |[y],vs,f =>
    obtain⟨r,C,T⟩:=RepL.get _ _ f 0 (by simp)
    have hv:vs=[.pointer (some ⟨r,0,none⟩)]:=by
     match vs,b1,K with
     |[v],_,_=>simp at C;rw[C]
    subst hv
    exact⟨⟨_,rfl⟩,ih y (by simp at hl;omega) W D r o F f⟩
   |y :: z :: t,vs,f=>simp at K;omega
  obtain⟨⟨lv,Z⟩,R⟩:=J s ls (by omega) h4 h5
  obtain⟨⟨rv,a6⟩,P⟩:=J ri rs (by omega) h6 h7
  rw[Z]at A R
  rw[a6]at A P
  have Y:∃H ac,av=.slice H c.length ac/\c.length<=9223372036854775807/\∀i,i<c.length->∃g,H=some ⟨g,0,none⟩/\g<j/\W.cell? ⟨g,i,none⟩=gs[i]?:=by
   rcases h9 with⟨m,p⟩|⟨g,cap,cur,m,p,q3,q4,q5,q6,q7⟩
   ·have:c.length=0:=by rw[<-L,m];rfl
    exact⟨none,0,by rw[this];exact p,by omega,fun i k=>by omega⟩
   ·refine⟨_,cap,by rw[<-L];exact m,?_,fun i k=>⟨g,rfl,o g p,?_⟩⟩
    ·have:maxLen=9223372036854775807:=rfl
     omega
    ·rw[za q3,<-Array.getElem?_toList,<-q7,List.getElem?_take_of_lt (by omega)]
  obtain⟨H,ac,rfl,a8,V⟩:=Y
  have b0:Tp.us of (Tp.rx [(⟨code,pos,O,md,nm,S,s,ri,c⟩:X)])=(if (code=2\/code=3\/code=6)/\md=of then [nm] else [])++(Tp.us of (Tp.rx s)++(Tp.us of (Tp.rx ri)++Tp.us of (Tp.rx c))):=by
   rw[a9,Tp.us_app,Tp.us_app,Tp.us_app]
   congr 1
   by_cases d:code=2\/code=3\/code=6
   ·rw[if_pos d]
    by_cases u:md=of
    ·rw[if_pos ⟨d,u⟩];simp[Tp.us,u]
    ·rw[if_neg (fun q=>u q.2)];simp[Tp.us,u]
   ·rw[if_neg d,if_neg (fun q=>d q.1)];rfl
  have M:RefB W B ⟨code,pos,md,nm,c.length⟩:=⟨_,_,_,_,_,_,A⟩
  rw[b0]at E ⊢
  rw[<-us_rx of c]at E ⊢
  rw[<-List.append_assoc,<-List.append_assoc,<-List.append_assoc]
  refine jE A (o _ p) F I ?_ ?_ R P ?_ a8
  ·simp only[List.length_append]at E ⊢
   omega
  ·by_cases d:(code=2\/code=3\/code=6)/\md=of
   ·rw[if_pos d]
    exact show_yes I M d.1 d.2 (by omega)
   ·rw[if_neg d,List.append_nil]
    exact show_not I M d
  ·intro i k
   obtain⟨g,C,T,a3⟩:=V i k
   obtain⟨r,a4,a5⟩:=RepL.get _ _ Q i k
   refine⟨g,r,C,T,a3.trans a4,?_⟩
   have e:((c[i]?).map fun y=>Tp.us of (Tp.rx [y])).getD []=Tp.us of (Tp.rx [c[i]]):=by rw[List.getElem?_eq_getElem k];rfl
   rw[e]
   have b2:SizeOf.sizeOf c[i]<=n:=by
    have:=List.sizeOf_lt_of_mem (List.getElem_mem k)
    omega
   exact ih c[i] b2 W D r o F a5
end Go.Proofs.YtibncofnnlbmcaaGreatDoor
namespace Go.Proofs.YtibncofnnlbmcaaGreatDoor
open Go.RowKit Go.Maps
open Tp (Bs X S Pr)
def AskUS (w:World) (ob nb:Nat) (of:Bs) (v:Value) (add:List Bs):Prop:=∀W l,Below nb w W->nb<=w.heap.size->UseSt W ob nb of l->l.length+add.length<=100000->Calls Tryz.prog 152 #[v,usedV ob nb] W (UseP W ob nb of (l++add))
structure Us1 (w:World) (ob nb:Nat) (of:Bs) (a:Option Addr) (i:Nat) (q:List Bs):Prop where
 out:∃(g code:Nat) (pos:Int) (nm:ByteArray) (iv vv ta ea:Option Addr) (tn tc en ec:Nat) (r1 r2 r3 r4:List Bs),a=some ⟨g,0,none⟩/\g<nb /\
  w.cell? ⟨g,i*7,none⟩=some (.int .i64 (code:Int))/\w.cell? ⟨g,i*7+1,none⟩=some (.int .i64 pos)/\w.cell? ⟨g,i*7+2,none⟩=some (.string nm)/\w.cell? ⟨g,i*7+3,none⟩=some (.pointer iv)/\w.cell? ⟨g,i*7+4,none⟩=some (.pointer vv)/\w.cell? ⟨g,i*7+5,none⟩=some (.slice ta tn tc)/\w.cell? ⟨g,i*7+6,none⟩=some (.slice ea en ec) /\
  AskU w ob nb of (.pointer iv) r1/\AskU w ob nb of (.pointer vv) r2/\AskUS w ob nb of (.slice ta tn tc) r3/\AskUS w ob nb of (.slice ea en ec) r4/\q=r1++r2++r3++r4
theorem jj {w:World}{ob d:Nat}{of:Bs}{l:List Bs}{a:Option Addr}{n c:Nat}{q:Nat->List Bs}(hq:∀i,i<n->Us1 w ob d of a i (q i))(hn:n<=9223372036854775807)(d6:d<w.heap.size)(hu:UseSt w ob d of l)(Q:(l++addTo q n).length<=100000) :
  Calls Tryz.prog 152 #[.slice a n c,usedV ob d] w (UseP w ob d of (l++addTo q n)):=by
 have HQ:=zh hq
 have d4:Hid (UseSt w ob d of (l++addTo q 0)):=by unfold Hid;simpa[addTo] using hu
 have b6:=zh Q
 have e5:(n:Int)<=9223372036854775807:=by omega
 clear hq hu Q
 have S:Hid (∀W v l s,AskU w ob d of v s->Below d w W->UseSt W ob d of l->l.length+s.length<=100000->Calls Tryz.prog 177 #[v,.func (.func 123) #[] #[.pointer (some ⟨ob,0,none⟩),.pointer (some ⟨d,0,none⟩)]] W (UseP W ob d of (l++s))):=fun W v l s h a b c=>h W l a (by omega) b c
 have T:Hid (∀W v l s,AskUS w ob d of v s->Below d w W->UseSt W ob d of l->l.length+s.length<=100000->Calls Tryz.prog 152 #[v,.func (.func 123) #[] #[.pointer (some ⟨ob,0,none⟩),.pointer (some ⟨d,0,none⟩)]] W (UseP W ob d of (l++s))):=fun W v l s h a b c=>h W l a (by omega) b c
 unfold usedV
 go_enter Tryz.func152,Tryz.ntmps152
 go_wp2_with fail
 go_loopg [8] n (fun k vi wr=>∃i:Nat,i<=n/\k=n-i/\vi=.int .i64 (i:Int)/\Hid (Below d w wr)/\Hid (UseSt wr ob d of (l++addTo q i))/\Hid (UseK d w wr))
 case atStart=>exact⟨0,by omega,by omega,rfl,Below.refl _ _,d4,UseK.below (Below.refl _ _) d6⟩
 case round =>
  obtain⟨i,e4,hk,rfl,A,I,R⟩:=hrel
  have e2:=A.out.size
  by_cases c7:i<n
  ·have b5:(i:Int)<(n:Int):=by omega
   obtain⟨g,code,pos,nm,iv,vv,ta,ea,tn,tc,en,ec,r1,r2,r3,r4,c8,c9,c0,c1,c2,c3,c4,c5,c6,a1,a2,a3,a4,E⟩:=(HQ.out i c7).out
   subst c8
   have t:∀(o:Nat) (u:Value),w.cell? ⟨g,o,none⟩=some u->wr.cell? ⟨g,o,none⟩=some u:=fun o u h=>(A.out.cell (p:=⟨g,o,none⟩) c9).trans h
   have d0:=t _ _ c0
   have d1:=t _ _ c1
   have d5:=t _ _ c2
   have d9:=t _ _ c3
   have b7:=t _ _ c4
   have d8:=t _ _ c5
   have b8:=t _ _ c6
   have e3:g<wr.heap.size:=by omega
   have y:Hid ((l++addTo q i).length+(r1.length+r2.length+r3.length+r4.length)<=100000):=by
    have h1:=b6.out
    have h2:=xS q (show i+1<=n by omega)
    rw[ys,E]at h2
    unfold Hid
    simp only[List.length_append]at h1 h2 ⊢
    omega
   have d2:Hid (l++addTo q i++r1++r2++r3++r4=l++addTo q (i+1)):=by unfold Hid;rw[ys,E];simp
   obtain⟨r,z⟩:∃r,r=wr.alloc (.cells #[.int .i64 (code:Int),.int .i64 pos,.string nm,.pointer iv,.pointer vv,.slice ta tn tc,.slice ea en ec] 181):=⟨_,rfl⟩
   have x:Below wr.heap.size wr r:=by rw[z];exact zb _ _
   have N:Hid (Below d w r):=A.out.trans (x.mono (by omega))
   have a6:=zh (I.out.on x)
   have a8:=zh (R.out.trans (UseK.below x (by omega)))
   have Y:Hid (¬OwnN r d wr.heap.size):=fun ⟨v,q1,q2⟩=>by
    obtain⟨v0,z1,z2⟩:=I.out.c
    have e0:r.cell? ⟨d,0,none⟩=some v0:=(x.cell (p:=⟨d,0,none⟩) (by simp;omega)).trans ((za z1).trans rfl)
    rw[e0]at q1
    cases q1
    have:=(z2.lt _ q2).2
    omega
   have G:Hid (r.heap[wr.heap.size]?=some (.cells #[.int .i64 (code:Int),.int .i64 pos,.string nm,.pointer iv,.pointer vv,.slice ta tn tc,.slice ea en ec] 181 (0,0))):=by rw[z];exact zo _ _
   have A1:=zh a1
   have A2:=zh a2
   have A3:=zh a3
   have A4:=zh a4
   clear c0 c1 c2 c3 c4 c5 c6 t a1 a2 a3 a4 E x
   generalize d3:l++addTo q i=la at *
   clear d3
   go_upto_region 3 with fail
   rw[<-z]
   clear z d0 d1 d5 d9 b7 d8 b8
   have m3:r.cell? ⟨wr.heap.size,3,none⟩=some (.pointer iv):=(za G.out).trans rfl
   have D:wr.heap.size<r.heap.size:=zf G.out
   have U:=zh (S.out r _ _ _ A1.out N.out a6.out (by have:=y.out;(try simp only[List.length_append]);omega))
   go_wp2_with fail
   refine U.out.mono ?_
   rintro e x1⟨rfl,j,m,f⟩
   have b2:=zh (a8.out.trans f)
   have M:Hid (Below d w x1):=N.out.trans j
   have a9:=zh m
   have C:Hid (x1.heap[wr.heap.size]?=some (.cells #[.int .i64 (code:Int),.int .i64 pos,.string nm,.pointer iv,.pointer vv,.slice ta tn tc,.slice ea en ec] 181 (0,0))):=(f.k _ D (by omega) Y.out).1.trans G.out
   have K:=zh (f.k _ D (by omega) Y.out).2
   clear j m f m3 D U
   have m4:x1.cell? ⟨wr.heap.size,4,none⟩=some (.pointer vv):=(za C.out).trans rfl
   have H:wr.heap.size<x1.heap.size:=zf C.out
   have X:=zh (S.out x1 _ _ _ A2.out M.out a9.out (by have:=y.out;(try simp only[List.length_append]);omega))
   go_wp2_with fail
   refine X.out.mono ?_
   rintro e x2⟨rfl,j,m,f⟩
   have b3:=zh (b2.out.trans f)
   have P:Hid (Below d w x2):=M.out.trans j
   have a7:=zh m
   have B:Hid (x2.heap[wr.heap.size]?=some (.cells #[.int .i64 (code:Int),.int .i64 pos,.string nm,.pointer iv,.pointer vv,.slice ta tn tc,.slice ea en ec] 181 (0,0))):=(f.k _ H (by omega) K.out).1.trans C.out
   have L:=zh (f.k _ H (by omega) K.out).2
   clear j m f m4 H X
   have m5:x2.cell? ⟨wr.heap.size,5,none⟩=some (.slice ta tn tc):=(za B.out).trans rfl
   have F:wr.heap.size<x2.heap.size:=zf B.out
   have V:=zh (T.out x2 _ _ _ A3.out P.out a7.out (by have:=y.out;(try simp only[List.length_append]);omega))
   go_wp2_with fail
   refine V.out.mono ?_
   rintro e x3⟨rfl,j,m,f⟩
   have a5:=zh (b3.out.trans f)
   have O:Hid (Below d w x3):=P.out.trans j
   have a0:=zh m
   have J:Hid (x3.heap[wr.heap.size]?=some (.cells #[.int .i64 (code:Int),.int .i64 pos,.string nm,.pointer iv,.pointer vv,.slice ta tn tc,.slice ea en ec] 181 (0,0))):=(f.k _ F (by omega) L.out).1.trans B.out
   have e1:=zh (f.k _ F (by omega) L.out).2
   clear j m f m5 F V
   have m6:x3.cell? ⟨wr.heap.size,6,none⟩=some (.slice ea en ec):=(za J.out).trans rfl
   have b9:wr.heap.size<x3.heap.size:=zf J.out
   have Z:=zh (T.out x3 _ _ _ A4.out O.out a0.out (by have:=y.out;(try simp only[List.length_append]);omega))
   go_wp2_with fail
   refine Z.out.mono ?_
   rintro e x4⟨rfl,j,m,f⟩
   have b4:=zh (a5.out.trans f)
   have b0:Hid (Below d w x4):=O.out.trans j
   have b1:=zh m
   clear j m f m6 b9 Z
   go_wp2_with fail
   go_roundg (n-(i+1))
   case measure=>omega
   case rel=>exact⟨i+1,by omega,rfl,by go_num,b0,by unfold Hid;rw[<-d2.out];exact b1.out,b4⟩
  ·have b5:¬(i:Int)<(n:Int):=by omega
   have d7:i=n:=by omega
   subst d7
   go_wp2_with fail
   exact bodyPost_end (results_none rfl _ _ _) rfl ⟨rfl,A.out,I.out,R.out⟩
theorem us_rs (of:Bs):∀(a:List S),addTo (fun i=>((a[i]?).map fun y=>Tp.us of (Tp.rs [y])).getD []) a.length=Tp.us of (Tp.rs a):=by
 intro a
 induction a with
 |nil=>simp[addTo,Tp.rs,Tp.us]
 |cons x l ih =>
  rw[jv,Tp.us_app,<-ih]
  unfold addTo
  rw[List.length_cons,List.range_succ_eq_map,List.map_cons,List.flatten_cons,List.map_map]
  have b:((fun i=>(((x :: l)[i]?).map fun y=>Tp.us of (Tp.rs [y])).getD []) ∘ Nat.succ)=fun i=>((l[i]?).map fun y=>Tp.us of (Tp.rs [y])).getD []:=by
   funext i
   simp
  rw[b]
  simp
theorem part_use {w:World}{ob d:Nat}{of:Bs}(i:d<w.heap.size){D:Nat->Prop}(k:∀b,D b->b<d)(l:List X)(vs:List Value)(c:RepL w D l vs)(h:vs.length<=1) :
  (∃a,vs.headD (.pointer none)=.pointer a)/\AskU w ob d of (vs.headD (.pointer none)) (Tp.us of (Tp.rx l)):=by
 have e:=RepL.len _ _ c
 match l,vs,c with
 |[],vs,c =>
  rw[RepL]at c
  subst c
  refine⟨⟨none,rfl⟩,fun o p _ _ j _=>?_⟩
  have:Tp.us of (Tp.rx [])=[]:=by simp[Tp.rx,Tp.us]
  rw[this]
  exact kh j
 |[y],vs,c =>
  obtain⟨g,f,n⟩:=RepL.get _ _ c 0 (by simp)
  have m:vs=[.pointer (some ⟨g,0,none⟩)]:=by
   match vs,h,e with
   |[v],_,_=>simp at f;rw[f]
  subst m
  exact⟨⟨_,rfl⟩,jP _ y zn w D g k i c⟩
 |y :: z :: t,vs,c=>simp at e;omega
theorem yM {ob m:Nat}{of:Bs}(a0:of≠[]):∀(n:Nat) (l:List S),SizeOf.sizeOf l<=n->∀(w:World) (D:Nat->Prop) (v:Value) (cs:List Value),(∀b,D b->b<m)->m<w.heap.size->RepS w D l cs->OwnS w D v l.length cs ->
  AskUS w ob m of v (Tp.us of (Tp.rs l)):=by
 intro n
 induction n with
 |zero=>intro l J;cases l<;>simp at J<;>omega
 |succ n ih =>
  intro l J w D v cs h V u x W a1 F _ hu B
  have N:∀b,D b->b<w.heap.size->W.heap[b]?=w.heap[b]?/\D b:=fun b O _=>⟨F.block b (h b O),O⟩
  have u:=u.mono' N
  have x:=x.mono N
  have k:m<W.heap.size:=Nat.lt_of_lt_of_le V F.size
  rw[<-us_rs]at B ⊢
  have Q:∃a c,v=.slice a l.length c/\l.length<=9223372036854775807/\∀i,i<l.length->∃g,a=some ⟨g,0,none⟩/\g<m/\∀j,j<7->W.cell? ⟨g,i*7+j,none⟩=cs[i*7+j]?:=by
   rcases x with⟨d,p⟩|⟨g,cap,cur,d,p,z,I,L,K,q⟩
   ·exact⟨none,0,by rw[p];exact d,by omega,fun i o=>by omega⟩
   ·refine⟨_,cap,d,?_,fun i o=>⟨g,rfl,h g p,fun j y=>?_⟩⟩
    ·have:maxLen=9223372036854775807:=rfl
     omega
    ·rw[za z,<-Array.getElem?_toList,<-q,List.getElem?_take_of_lt (by omega)]
  obtain⟨a,c,rfl,T,P⟩:=Q
  refine jj (fun i o=>?_) T k hu (by simpa only [List.length_append] using B)
  rcases hx:l[i] with⟨code,pos,nm,r,A,t,s⟩
  have G:l[i]?=some ⟨code,pos,nm,r,A,t,s⟩:=by rw[List.getElem?_eq_getElem o,hx]
  obtain⟨tv,ev,ls,vs,Y,U,d,p,z,I,L,K,q,q8,M⟩:=RepS.get _ _ u i code pos nm r A t s G
  obtain⟨g,g1,g2,g3⟩:=P i o
  have H:SizeOf.sizeOf l[i]<SizeOf.sizeOf l:=List.sizeOf_lt_of_mem (List.getElem_mem o)
  rw[hx]at H
  simp at H
  obtain⟨⟨iv,X⟩,E⟩:=part_use (ob:=ob) (of:=of) k h r ls p z
  obtain⟨⟨vv,Z⟩,C⟩:=part_use (ob:=ob) (of:=of) k h A vs I L
  obtain⟨ta,tc,rfl⟩:=q.shape
  obtain⟨ea,ec,rfl⟩:=M.shape
  rw[X]at E d
  rw[Z]at C d
  have f:=fun j (y:j<7)=>(g3 j y).trans (d j y)
  refine⟨g,code,pos,bs nm,iv,vv,ta,ea,t.length,tc,s.length,ec,_,_,_,_,g1,g2,f 0 (by omega),f 1 (by omega),f 2 (by omega),f 3 (by omega),f 4 (by omega),f 5 (by omega),f 6 (by omega),E,C,ih t (by omega) W D _ Y h k K q,ih s (by omega) W D _ U h k q8 M,?_⟩
  rw[G,Option.map_some,Option.getD_some,rs_one,Tp.us_app,Tp.us_app,Tp.us_app,Tp.us_app]
  have e0:Tp.us of (if code=1 then [(⟨if r.isEmpty then 2 else 3,pos,[],nm,0⟩:Tp.R)] else [])=[]:=by
   split
   ·have:([]:Bs)≠of:=fun e=>a0 e.symm
    simp[Tp.us,this]
   ·rfl
  rw[e0]
  simp
theorem xO {w:World}{ob d:Nat}{of nm:Bs}{l:List Bs}{V gn pn E ic gc pc G:Nat}{Z ga N F:Option Addr}{q:Nat->List Bs}{C:List Bs}(a5:d<w.heap.size)(hu:UseSt w ob d of l)(a3:(l++addTo q pn++C).length<=100000)
  (hP:∀i,i<pn->∃(g:Nat) (S:Bs) (x1:Nat) (x2:Bool) (O R t:Option Addr) (P Q r c3 M n:Nat),N=some ⟨g,0,none⟩/\g<d/\w.cell? ⟨g,i*6,none⟩=some (.string (bs S))/\w.cell? ⟨g,i*6+1,none⟩=some (.int .i64 (x1:Int))/\w.cell? ⟨g,i*6+2,none⟩=some (.bool x2)/\w.cell? ⟨g,i*6+3,none⟩=some (.slice O P c3)/\w.cell? ⟨g,i*6+4,none⟩=some (.slice R Q M)/\w.cell? ⟨g,i*6+5,none⟩=some (.slice t r n)/\AskUS w ob d of (.slice t r n) (q i))
  (hB:AskUS w ob d of (.slice F E G) C)(e1:pn<=1000) :
  Calls Tryz.prog 122 #[.agg #[.string (bs nm),.slice Z V ic,.slice ga gn gc,.slice N pn pc,.slice F E G],usedV ob d] w (UseP w ob d of (l++addTo q pn++C)):=by
 obtain⟨f,H⟩:∃f,f=w.alloc (.cells #[.string (bs nm),.slice Z V ic,.slice ga gn gc,.slice N pn pc,.slice F E G] 36):=⟨_,rfl⟩
 have z:Below w.heap.size w f:=by rw[H];exact zb _ _
 have L:f.heap[w.heap.size]?=some (.cells #[.string (bs nm),.slice Z V ic,.slice ga gn gc,.slice N pn pc,.slice F E G] 36 (0,0)):=by rw[H];exact zo _ _
 have b7:w.heap.size<f.heap.size:=zf L
 have a7:Hid (¬OwnN f d w.heap.size):=fun ⟨v,q1,q2⟩=>by
  obtain⟨v0,z1,z2⟩:=hu.c
  have e0:f.cell? ⟨d,0,none⟩=some v0:=(z.cell (p:=⟨d,0,none⟩) a5).trans ((za z1).trans rfl)
  rw[e0]at q1
  cases q1
  have:=(z2.lt _ q2).2
  omega
 have b9:Hid (UseSt f ob d of (l++addTo q 0)):=by unfold Hid;simpa[addTo] using hu.on z
 have b1:Hid (Below d w f):=z.mono (by omega)
 have b3:=zh (UseK.below z a5)
 obtain⟨k0,k1,k2,k3,k4⟩:=zZ L
 have c6:=zh L
 have HP:=zh hP
 have b8:Hid (∀W l,Below d w W->UseSt W ob d of l->l.length+C.length<=100000->Calls Tryz.prog 152 #[.slice F E G,.func (.func 123) #[] #[.pointer (some ⟨ob,0,none⟩),.pointer (some ⟨d,0,none⟩)]] W (UseP W ob d of (l++C))):=fun W l a b c=>hB W l a (by omega) b c
 have a2:=zh a3
 have d6:(pn:Int)<=1000:=by omega
 clear hP hB a3 z L hu k0 k1 k2 k4
 unfold usedV
 go_enter Tryz.func122,Tryz.ntmps122
 go_upto_region 1 with fail
 rw[<-H]
 clear H
 go_wp2_with fail
 go_loopg [9] pn (fun k vi wr=>∃i:Nat,i<=pn/\k=pn-i/\vi=.int .i64 (i:Int)/\Hid (Below d w wr)/\Hid (UseSt wr ob d of (l++addTo q i))/\Hid (UseK d f wr))
 case atStart=>exact⟨0,by omega,by omega,rfl,b1,b9,UseK.below (Below.refl _ _) (by omega)⟩
 case round =>
  obtain⟨i,d8,hk,rfl,D,HU,I⟩:=hrel
  have c9:=D.out.size
  have c8:=I.out.s
  by_cases b0:i<pn
  ·have a6:(i:Int)<(pn:Int):=by omega
   obtain⟨g,S,x1,x2,O,R,t,P,Q,r,c3,M,n,b2,b4,d0,d1,d2,d3,d4,d5,a1⟩:=HP.out i b0
   subst b2
   have m:∀(o:Nat) (u:Value),w.cell? ⟨g,o,none⟩=some u->wr.cell? ⟨g,o,none⟩=some u:=fun o u h=>(D.out.cell (p:=⟨g,o,none⟩) b4).trans h
   have b5:=m _ _ d0
   have b6:=m _ _ d1
   have c0:=m _ _ d2
   have c7:=m _ _ d3
   have a8:=m _ _ d4
   have c2:=m _ _ d5
   have d7:g<wr.heap.size:=by omega
   obtain⟨j,K⟩:∃j,j=wr.alloc (.cells #[.string (bs S),.int .i64 (x1:Int),.bool x2,.slice O P c3,.slice R Q M,.slice t r n] 65):=⟨_,rfl⟩
   have J:Below wr.heap.size wr j:=by rw[K];exact zb _ _
   have X:j.heap[wr.heap.size]?=some (.cells #[.string (bs S),.int .i64 (x1:Int),.bool x2,.slice O P c3,.slice R Q M,.slice t r n] 65 (0,0)):=by rw[K];exact zo _ _
   have m5:j.cell? ⟨wr.heap.size,5,none⟩=some (.slice t r n):=(za X).trans rfl
   have e2:wr.heap.size<j.heap.size:=zf X
   have a4:Hid (Below d w j):=D.out.trans (J.mono (by omega))
   have a9:=zh (I.out.trans (UseK.below J (by omega)))
   have a0:=a1 j _ a4.out (by omega) (HU.out.on J) (by
    have h1:=a2.out
    have h2:=xS q (show i+1<=pn by omega)
    rw[ys]at h2
    simp only[List.length_append]at h1 h2 ⊢
    omega)
   have B:Hid (Calls Tryz.prog 152 #[.slice t r n,.func (.func 123) #[] #[.pointer (some ⟨ob,0,none⟩),.pointer (some ⟨d,0,none⟩)]] j (UseP j ob d of (l++addTo q (i+1)))):=by
    unfold Hid
    rw[ys,<-List.append_assoc]
    exact a0
   clear d0 d1 d2 d3 d4 d5 m a1 J X a0
   go_upto_region 4 with fail
   rw[<-K]
   clear K b5 b6 c0 c7 a8 c2
   go_wp2_with fail
   refine B.out.mono ?_
   rintro e w2⟨rfl,x,A,y⟩
   have U:Hid (Below d w w2):=a4.out.trans x
   have Y:=zh A
   have T:=zh (a9.out.trans y)
   clear x A y B m5
   go_wp2_with fail
   go_roundg (pn-(i+1))
   case measure=>omega
   case rel=>exact⟨i+1,by omega,rfl,by go_num,U,Y,T⟩
  ·have a6:¬(i:Int)<(pn:Int):=by omega
   have c1:i=pn:=by omega
   subst c1
   have e4:=(I.out.k w.heap.size b7 (by omega) a7.out).1.trans c6.out
   have m4:=(zZ e4).2.2.2.2
   have d9:w.heap.size<wr.heap.size:=zf e4
   have B:=zh (b8.out wr _ D.out HU.out (by have:=a2.out;simp only[List.length_append]at this ⊢;omega))
   clear e4
   go_wp2_with fail
   refine B.out.mono ?_
   rintro e w2⟨rfl,x,A,y⟩
   have U:Hid (Below d w w2):=D.out.trans x
   have Y:=zh A
   have T:=zh (b3.out.trans (I.out.trans y))
   clear x A y B m4
   go_wp2_with fail
   exact bodyPost_end (results_none rfl _ _ _) rfl ⟨rfl,U.out,Y.out,T.out⟩
end Go.Proofs.YtibncofnnlbmcaaGreatDoor
