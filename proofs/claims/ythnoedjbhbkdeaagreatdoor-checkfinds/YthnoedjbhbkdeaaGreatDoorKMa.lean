import Derived.Test.YthnoedjbhbkdeaaGreatDoorKWj
import Derived.Test.YthnoedjbhbkdeaaGreatDoorKSha
import Derived.Test.YthnoedjbhbkdeaaGreatDoorKWa
import Derived.Test.YthnoedjbhbkdeaaGreatDoorKPc
import Derived.Test.YthnoedjbhbkdeaaGreatDoorKWb
import Derived.Maps.OwnSet
import Derived.Maps.OwnOps
import Derived.StringKeys
import Derived.Lib.Hide
import Derived.Deep.RegionHeld3
set_option maxRecDepth 100000
set_option maxHeartbeats 4000000
namespace Go.Proofs.YthnoedjbhbkdeaaGreatDoor
open Go.RowKit Go.Sort
open Tp (Sy)
def encSy (s:Sy):List Value:=[.string (bs s.1),.int .i64 (s.2.1:Int),.int .i64 s.2.2]
def sycs (l:List Sy):List Value:=(l.map encSy).flatten
def cfS (x y:Sy):Int:=Lib.compareBytes x.1 y.1
def insS (l:List Sy) (a b:Nat):List Sy:=(Sort.insertionSort (ltOf cfS) l.toArray a b).toList
def srt (l:List Sy):List Sy:=insS l 0 l.length
theorem xS (s:Sy) (l:List Sy):sycs (s :: l)=encSy s++sycs l:=rfl
theorem sycs_app (l m:List Sy):sycs (l++m)=sycs l++sycs m:=by simp[sycs]
theorem sycs_len (l:List Sy):(sycs l).length=l.length * 3:=by
 induction l with
 | nil=>rfl
 | cons s l ih=>rw[xS,List.length_append,ih];simp[encSy];omega
theorem sycs_get:∀(l:List Sy) (i:Nat) (h:i<l.length) (j:Nat),j<3->(sycs l)[i * 3+j]?=(encSy l[i])[j]?:=by
 intro l
 induction l with
 | nil=>intro i h;simp at h
 | cons s l ih =>
  intro i h j hj
  rw[xS]
  cases i with
  | zero=>rw[Nat.zero_mul,Nat.zero_add,List.getElem?_append_left (by simpa[encSy] using hj)];rfl
  | succ i =>
   rw[List.getElem?_append_right (by simp[encSy];omega)]
   have:(i+1) * 3+j - (encSy s).length=i * 3+j:=by simp[encSy];omega
   rw[this,ih i (by simpa using h) j hj]
   rfl
theorem vE (d:Array Sy):(flatK encSy 3 d).toList=sycs d.toList:=by
 apply List.ext_getElem?
 intro t
 by_cases ht:t<d.size * 3
 ·have hi:t / 3<d.size:=by omega
  have hj:t % 3<3:=Nat.mod_lt _ (by omega)
  have e:t=(t / 3) * 3+t % 3:=by omega
  have h1:=sycs_get d.toList (t / 3) (by simpa using hi) (t % 3) hj
  rw[<-e]at h1
  rw[h1,Array.getElem?_toList]
  rw[flatK]
  rw[Array.getElem?_map,Array.getElem?_range]
  simp only [ht,if_true,Option.map_some]
  rw[getElem!_pos d (t / 3) hi]
  rw[List.getElem?_eq_getElem (by simp[encSy];omega),getElem!_pos _ _ (by simp[encSy];omega)]
  simp
 ·rw[List.getElem?_eq_none (by simp;omega),List.getElem?_eq_none (by rw[sycs_len];simp;omega)]
structure SyRow (w:World) (g:Nat) (cap:Nat) (l:List Sy):Prop where
 b:∃ cur,w.heap[g]?=some (.cells cur 99 (0,0))/\cur.size=cap * 3/\cur.toList.take (l.length * 3)=sycs l
 n:l.length<=cap
 m:cap<=maxLen
theorem SyRow.holds {w:World}{g cap:Nat}{l:List Sy}(h:SyRow w g cap l):HoldsK encSy 3 w g 0 l.toArray:=by
 obtain⟨cur,h1,h2,h3⟩:=h.b
 intro j hj
 have hj':j<l.length * 3:=by simpa using hj
 refine⟨?_,zg h1⟩
 rw[za h1,Nat.zero_add,<-Array.getElem?_toList,<-List.getElem?_take_of_lt hj',h3]
 have e:=vE l.toArray
 have e2:(sycs l)[j]?=(flatK encSy 3 l.toArray).toList[j]?:=by rw[e]
 rw[e2,Array.getElem?_toList,Array.getElem?_eq_getElem hj,getElem!_pos (flatK encSy 3 l.toArray) j hj]
 rfl
theorem SyRow.sorted {w:World}{g cap n:Nat}{l:List Sy}{d:Array Sy}{os:Array Obj}(h:SyRow w g cap l) (hs:d.size=l.length):SyRow (sortWorldK encSy 3 w g 0 n d os) g cap d.toList/\w.grownBy (sortWorldK encSy 3 w g 0 n d os) (some g):=by
 obtain⟨cur,h1,h2,h3⟩:=h.b
 have hg:=zc h1
 have hn:=h.n
 have hF:(flatK encSy 3 d).size=d.size * 3:=size_flatK _ _ _
 refine⟨⟨⟨putCells id 0 (flatK encSy 3 d) cur,?_,by simp[putCells,h2],?_⟩,by simpa[hs] using h.n,h.m⟩,⟨rfl,rfl,rfl,by simp[sortWorldK,putRowK],fun k hk hne=>?_⟩⟩
 ·unfold sortWorldK putRowK
  rw[heap_grow_old _ _ (by simpa using hg)]
  simp[putRow,mapBlock,Sort.ahead,Array.getElem?_modify,h1,onCells]
 ·rw[<-vE]
  apply List.ext_getElem?
  intro j
  by_cases hj:j<d.toList.length * 3
  ·have hjF:j<(flatK encSy 3 d).size:=by rw[hF];simpa using hj
   have hjc:j<cur.size:=by rw[h2];simp at hj;omega
   rw[List.getElem?_take_of_lt hj,Array.getElem?_toList,Array.getElem?_toList,Array.getElem?_eq_getElem hjF]
   simp only [putCells,Array.getElem?_mapIdx,Array.getElem?_eq_getElem hjc,Option.map_some,Nat.zero_le,true_and,Nat.zero_add,if_pos hjF,Nat.sub_zero,id]
   rw[getElem!_pos (flatK encSy 3 d) j hjF]
  ·rw[List.getElem?_take_eq_none (by omega),List.getElem?_eq_none (by simp at hj ⊢;omega)]
 ·unfold sortWorldK putRowK
  rw[heap_grow_old _ _ (by simpa using hk)]
  have:g≠k:=fun e=>hne (by rw[e])
  simp[putRow,mapBlock,Sort.ahead,Array.getElem?_modify,this]
theorem xG {lt:Sy->Sy->Bool}(a:Nat):∀(j:Nat) (d:Array Sy),(Sort.insInner lt a j d).size=d.size:=by
 intro j
 induction j with
 | zero=>intro d;rfl
 | succ j ih =>
  intro d
  rw[Sort.insInner]
  split
  ·rw[ih];simp[swp]
  ·rfl
theorem xF {lt:Sy->Sy->Bool}(a b:Nat):∀(k i:Nat) (d:Array Sy),b - i=k->(Sort.insOuter lt a b i d).size=d.size:=by
 intro k
 induction k with
 | zero=>intro i d h;rw[Sort.insOuter,if_neg (by omega)]
 | succ k ih =>
  intro i d h
  rw[Sort.insOuter]
  split
  ·rw[ih (i+1) _ (by omega),xG]
  ·rfl
theorem insS_len (l:List Sy) (a b:Nat):(insS l a b).length=l.length:=by
 unfold insS Sort.insertionSort
 rw[Array.length_toList,xF a b _ _ _ rfl]
 simp
theorem insS_none (l:List Sy) (a:Nat):insS l a a=l:=by
 unfold insS Sort.insertionSort
 rw[Sort.insOuter,if_neg (by omega)]
theorem jw (l:List Sy):(srt l).length=l.length:=insS_len _ _ _
theorem Tryz.infoSym:(Tryz.prog.info? 99).map (fun i=>(i.zero,i.size,i.bytes))=some (some (.agg #[.string ⟨#[]⟩,.int .i64 0,.int .i64 0]),3,32):=by kernel_rfl
def AskOG (w:World) (gn:Nat) (ga:Option Addr) (xs:Nat->List Sy):Prop :=
 ∀ i,i<gn->∃(g:Nat) (x0:List UInt8) (x1 x2:Nat) (x3:Bool),ga=some ⟨g,0,none⟩/\g<w.heap.size/\w.cell? ⟨g,i * 4,none⟩=some (.string (bs x0))/\w.cell? ⟨g,i * 4+1,none⟩=some (.int .i64 (x1:Int))/\w.cell? ⟨g,i * 4+2,none⟩=some (.int .i64 (x2:Int))/\w.cell? ⟨g,i * 4+3,none⟩=some (.bool x3) /\
  xs (i+1)=xs i++(if x3 then [(x0,x2,-1)] else [])
def AskOP (w:World) (pn:Nat) (pa:Option Addr) (xs:Nat->List Sy):Prop :=
 ∀ i,i<pn->∃(g:Nat) (x0:List UInt8) (x1:Nat) (x2:Bool) (y3 y4 y5:Option Addr) (n3 n4 n5 c3 c4 c5:Nat),pa=some ⟨g,0,none⟩/\g<w.heap.size/\w.cell? ⟨g,i * 6,none⟩=some (.string (bs x0))/\w.cell? ⟨g,i * 6+1,none⟩=some (.int .i64 (x1:Int))/\w.cell? ⟨g,i * 6+2,none⟩=some (.bool x2)/\w.cell? ⟨g,i * 6+3,none⟩=some (.slice y3 n3 c3)/\w.cell? ⟨g,i * 6+4,none⟩=some (.slice y4 n4 c4)/\w.cell? ⟨g,i * 6+5,none⟩=some (.slice y5 n5 c5) /\
  xs (i+1)=xs i++(if x2 then [(x0,0,(n3:Int))] else [])
def SL (w:World) (B:Nat) (v:Value) (l:List Sy):Prop:=v=.slice none 0 0/\l=[]\/∃ g cap,v=.slice (some ⟨g,0,none⟩) l.length cap/\B<=g/\SyRow w g cap l
theorem own_syrow {w:World}{base n:Nat}{v:Value}{l:List Sy}(h:w.ownsRow base 99 3 v n (sycs l)):n=l.length/\SL w base v l:=by
 have hn:n=l.length:=by have:=h.1;rw[sycs_len]at this;omega
 refine⟨hn,?_⟩
 rcases h.2 with⟨rfl,h2⟩|⟨g,cap,cur,rfl,q1,q2,q3,q4,q5,q6⟩
 ·exact Or.inl ⟨rfl,List.eq_nil_of_length_eq_zero (by omega)⟩
 ·subst hn
  exact Or.inr ⟨g,cap,rfl,q1,⟨⟨cur,q2,q5,q6⟩,q3,q4⟩⟩
theorem newsSy (w:World) (o:Obj) (v0 v1 v2:Value) (t:TypeId):∀(j:Nat) (u:Value),([v0,v1,v2]:List Value)[j]?=some u->((w.alloc o).alloc (.cells #[v0,v1,v2] t)).cell? ((⟨w.heap.size+1,0,none⟩:Addr).add j)=some u:=by
 intro j u hj
 rw[Addr.add_lit,za (new_blk1 _ _ _),Nat.zero_add]
 simpa using hj
end Go.Proofs.YthnoedjbhbkdeaaGreatDoor
namespace Go.Proofs.YthnoedjbhbkdeaaGreatDoor
open Go.RowKit Go.Sort
open Tp (Sy G Pr)
theorem vH {α β:Type}(p:α->Bool) (f:α->β) (l:List α) (i:Nat) (h:i<l.length):((l.take (i+1)).filter p).map f=((l.take i).filter p).map f++(if p l[i] then [f l[i]] else []):=by
 rw[List.take_succ_eq_append_getElem h,List.filter_append,List.map_append]
 congr 1
 by_cases hp:p l[i]=true
 ·simp[hp]
 ·simp[hp]
theorem filt_len {α β:Type}(p:α->Bool) (f:α->β) (l:List α):((l.filter p).map f).length<=l.length:=by
 rw[List.length_map];exact List.length_filter_le _ _
theorem SL.len {w:World}{B:Nat}{v:Value}{l:List Sy}(h:SL w B v l):∃ a c,v=.slice a l.length c:=by
 rcases h with⟨rfl,rfl⟩|⟨g,cap,rfl,_⟩
 ·exact⟨none,0,rfl⟩
 ·exact⟨_,_,rfl⟩
theorem SL.cell {w:World}{B:Nat}{a:Option Addr}{n c:Nat}{l:List Sy}(h:SL w B (.slice a n c) l) (i:Nat) (hi:i<l.length):∃ g,a=some ⟨g,0,none⟩/\B<=g/\g<w.heap.size/\∀ j,j<3->w.cell? ⟨g,i * 3+j,none⟩=(encSy l[i])[j]?:=by
 rcases h with⟨_,rfl⟩|⟨g,cap,q1,q2,q3⟩
 ·simp at hi
 ·cases q1
  obtain⟨cur,r1,r2,r3⟩:=q3.b
  refine⟨g,rfl,q2,zc r1,fun j hj=>?_⟩
  rw[za r1,<-Array.getElem?_toList,<-sycs_get l i hi j hj,<-r3,List.getElem?_take_of_lt (by omega)]
theorem SL.on {w w':World}{B:Nat}{v:Value}{l:List Sy}(h:SL w B v l) (k:Below w.heap.size w w'):SL w' B v l:=by
 rcases h with q|⟨g,cap,q1,q2,q3⟩
 ·exact Or.inl q
 ·obtain⟨cur,r1,r2,r3⟩:=q3.b
  exact Or.inr ⟨g,cap,q1,q2,⟨⟨cur,(k.block g (zc r1)).trans r1,r2,r3⟩,q3.n,q3.m⟩⟩
end Go.Proofs.YthnoedjbhbkdeaaGreatDoor
namespace Go.Proofs.YthnoedjbhbkdeaaGreatDoor
open Go.RowKit Go.Sort
open Tp (Sy)
theorem bs_inj {a b:List UInt8}(h:bs a=bs b):a=b:=by
 have:=congrArg (fun x:ByteArray=>x.data.toList) h
 simpa[bs] using this
theorem find1_post (s:Sy) (n:List UInt8) (W:World) (bp:Nat) (hc:W.cell? ⟨bp,0,none⟩=some (.string (bs n))) :
  Calls Tryz.prog 71 #[.agg #[.string (bs s.1),.int .i64 (s.2.1:Int),.int .i64 s.2.2],.pointer (some ⟨bp,0,none⟩)] W fun e w'=>e=.returned (.bool (decide (s.1=n)))/\Below W.heap.size W w':=by
 obtain⟨nm,x1,x2⟩:=s
 simp only
 have hlt:=World.block_lt_of_cell? _ _ hc
 by_cases h:nm=n
 ·subst h
  go_enter Tryz.func71,Tryz.ntmps71
  go_wp2_with fail
  go_ret
  exact⟨by simp,zb _ _⟩
 ·have hne:¬bs nm=bs n:=fun e=>h (bs_inj e)
  go_enter Tryz.func71,Tryz.ntmps71
  go_wp2_with fail
  go_ret
  exact⟨by simp[h,zw],zb _ _⟩
def fidx (l:List Sy) (n:List UInt8):Int:=match l.findIdx? (fun s=>s.1 == n) with
 | some i=>(i:Int)
 | none=>-1
theorem fidx_at {l:List Sy}{n:List UInt8}{i:Nat}(hi:i<l.length) (h:l[i].1=n) (hb:∀ k (hk:k<i),l[k].1≠n):fidx l n=(i:Int):=by
 unfold fidx
 have:l.findIdx? (fun s=>s.1 == n)=some i:=by
  rw[List.findIdx?_eq_some_iff_getElem]
  exact⟨hi,by simpa using h,fun j hj=>by simpa using hb j hj⟩
 rw[this]
theorem fidx_no {l:List Sy}{n:List UInt8}(hb:∀ k (hk:k<l.length),l[k].1≠n):fidx l n=-1:=by
 unfold fidx
 have:l.findIdx? (fun s=>s.1 == n)=none:=by
  rw[List.findIdx?_eq_none_iff]
  intro x hx
  obtain⟨k,hk,rfl⟩:=List.getElem_of_mem hx
  simpa using hb k hk
 rw[this]
theorem index_post {w:World}{B:Nat}{v:Value}{l:List Sy}(h:SL w B v l) (hn:l.length<=1000) (n:List UInt8) (bp:Nat) (hc:w.cell? ⟨bp,0,none⟩=some (.string (bs n))) :
  Calls Tryz.prog 70 #[v,.func (.func 71) #[] #[.pointer (some ⟨bp,0,none⟩)]] w fun e w'=>e=.returned (.int .i64 (fidx l n))/\Below w.heap.size w w':=by
 obtain⟨a,c,rfl⟩:=h.len
 have hn':(l.length:Int)<=1000:=by omega
 have hltp:=World.block_lt_of_cell? _ _ hc
 have HSL:=zh h
 have HC:=zh hc
 obtain⟨ln,hnl⟩:∃ ln,ln=l.length:=⟨_,rfl⟩
 rw[<-hnl]at hn' ⊢
 have HN:=zh hnl
 clear h hnl hc
 go_enter Tryz.func70,Tryz.ntmps70
 go_wp2_with fail
 go_loopg [8] ln (fun k vi wr=>∃ i:Nat,i<=ln/\k=ln - i/\vi=.int .i64 (i:Int)/\Hid (∀ k (hk:k<l.length),k<i->l[k].1≠n)/\Hid (Below w.heap.size w wr))
 case atStart=>exact⟨0,by omega,by omega,rfl,fun k _ hk=>by omega,Below.refl _ _⟩
 case round =>
  obtain⟨i,hid,hk,rfl,HI,HW⟩:=hrel
  by_cases hlt:i<ln
  ·have hlt':(i:Int)<(ln:Int):=by omega
   have hia:i<l.length:=by have:=HN.out;omega
   obtain⟨g,rfl,_,hgl,hcell⟩:=HSL.out.cell i hia
   have hc:=fun j (hj:j<3)=>(HW.out.cell (p:=⟨g,i * 3+j,none⟩) hgl).trans (hcell j hj)
   have kc0:wr.cell? ⟨g,i * 3,none⟩=some (.string (bs l[i].1)):=hc 0 (by omega)
   have kc1:wr.cell? ⟨g,i * 3+1,none⟩=some (.int .i64 (l[i].2.1:Int)):=hc 1 (by omega)
   have kc2:wr.cell? ⟨g,i * 3+2,none⟩=some (.int .i64 l[i].2.2):=hc 2 (by omega)
   have hlgr:g<wr.heap.size:=by have:=HW.out.size;omega
   have HF:=zh (find1_post l[i] n wr bp ((HW.out.cell (p:=⟨bp,0,none⟩) hltp).trans HC.out))
   have HAT:Hid (l[i].1=n->fidx l n=(i:Int)):=fun e=>fidx_at hia e (fun k hk=>HI.out k (by omega) hk)
   have HNX:Hid (¬l[i].1=n->∀ k (hk:k<l.length),k<i+1->l[k].1≠n):=by
    intro hne k hk hlt
    by_cases e:k=i
    ·subst e;exact hne
    ·exact HI.out k hk (by omega)
   clear hc hcell
   generalize l[i].1=x0 at *
   generalize l[i].2.1=x1 at *
   generalize l[i].2.2=x2 at *
   go_wp2_with fail
   refine HF.out.mono ?_
   rintro e w3 ⟨rfl,h3⟩
   have HW3:=zh (HW.out.trans (h3.mono HW.out.size))
   clear h3
   by_cases hx:x0=n
   ·rw[decide_eq_true hx]
    have he:=HAT.out hx
    go_wp2_with fail
    go_ret
    exact⟨by first|rfl|(rw[he];rfl),HW3.out⟩
   ·rw[decide_eq_false hx]
    have HI3:=zh (HNX.out hx)
    go_wp2_with fail
    go_roundg (ln - (i+1))
    case measure=>omega
    case rel=>exact⟨i+1,by omega,rfl,by go_num,HI3,HW3⟩
  ·have hlt':¬(i:Int)<(ln:Int):=by omega
   have he:fidx l n=-1:=fidx_no (fun k hk=>HI.out k hk (by have:=HN.out;omega))
   go_wp2_with fail
   go_ret
   exact⟨by first|rfl|(rw[he];rfl),HW.out⟩
theorem find_post {w:World}{B:Nat}{v:Value}{l:List Sy}(h:SL w B v l) (hn:l.length<=1000) (n:List UInt8) :
  Calls Tryz.prog 25 #[v,.string (bs n)] w fun e w'=>e=.returned (.int .i64 (fidx l n))/\Below w.heap.size w w':=by
 have hmf:=zm
 have hal:Below w.heap.size w (w.alloc (.cells #[.string (bs n)] 9)):=zb _ _
 have HC:=zh (index_post (h.on hal) hn n w.heap.size (za (zl _ _)))
 have HAL:=zh hal
 obtain⟨a,c,rfl⟩:=h.len
 clear h
 generalize l.length=ln at *
 go_enter Tryz.func25,Tryz.ntmps25
 go_wp2_with fail
 refine HC.out.mono ?_
 rintro e w1 ⟨rfl,h1⟩
 have H1:=zh (HAL.out.trans (h1.mono (by simp)))
 clear h1
 go_wp2_with fail
 go_ret
 exact⟨rfl,H1.out⟩
end Go.Proofs.YthnoedjbhbkdeaaGreatDoor
namespace Go.Proofs.YthnoedjbhbkdeaaGreatDoor
open Go.RowKit Go.Maps
open Tp (Bs)
def heldV (v:Value):Option (DataW Value× List MemPlace):=some (.held v,[])
theorem skey:Keyed Tryz.prog 9:=string_keyed Tryz.underlying9
structure MapV (w:World) (b n:Nat) (f:Bs->Option Value):Prop where
 own:∃ D,w.ownsMap Tryz.prog 9 heldV b n D/\∀ s,Maps.has D (.string s)=(f s).isSome/\∀ v,f s=some v->∀ z,D.atKey (.string s) z=.held v
theorem MapV.made (w:World):MapV (w.alloc (.map #[] 0)) w.heap.size 0 (fun _=>none) :=
 ⟨⟨.map [],World.ownsMap_made _ _ _ _,fun s=>⟨rfl,fun v h=>by cases h⟩⟩⟩
theorem MapV.on {w w':World}{b n:Nat}{f:Bs->Option Value}(h:MapV w b n f) (k:w'.heap[b]?=w.heap[b]?):MapV w' b n f:=by
 obtain⟨D,⟨es,clock,h1,h2⟩,h3⟩:=h.own
 exact⟨⟨D,⟨es,clock,k.trans h1,h2⟩,h3⟩⟩
theorem MapV.lt {w:World}{b n:Nat}{f:Bs->Option Value}(h:MapV w b n f):b<w.heap.size:=by
 obtain⟨D,h1,_⟩:=h.own
 exact h1.lt
theorem xr (l:Bs) (hl:l.length<=1000000):keyOf Tryz.prog 9 (.string (bs l))=some (.string l):=by
 have:=Go.WideMaps.keyOf_string_mk (P:=Tryz.prog) (k:=9) Tryz.underlying9 (s:=bs l) (by simp[bs,ByteArray.size,maxLen];omega)
 simpa[bs] using this
theorem MapV.look {w:World}{b n:Nat}{f:Bs->Option Value}(h:MapV w b n f) {t e:TypeId}(ht:Tryz.prog.underlying t=some (.map 9 e)) {z:Value}(hz:(zeroValue e).run Tryz.prog w=.ok z w) (l:Bs) (hl:l.length<=1000000) (c:Bool) :
  (Instr.lookup t (.map (some b)) (.string (bs l)) c).run Tryz.prog w=.ok (if c then .tuple #[(f l).getD z,.bool (f l).isSome] else (f l).getD z) w:=by
 obtain⟨D,h1,h2⟩:=h.own
 obtain⟨e1,e2⟩:=h2 l
 have key:∀ v,heldV v=some (D.atKey (.string l) (.held z),([]:List MemPlace))->v=(f l).getD z:=by
  intro v hv
  unfold heldV at hv
  simp only [Option.some.injEq,Prod.mk.injEq,and_true]at hv
  cases hf:f l with
  | none =>
   rw[hf]at e1
   rw[atKey_of_not_has e1]at hv
   injection hv
  | some u =>
   rw[e2 u hf]at hv
   injection hv
 have key':∀ v ps,heldV v=some (D.atKey (.string l) (.held z),ps)->v=(f l).getD z:=by
  intro v ps hv
  refine key v ?_
  unfold heldV at hv ⊢
  simp only [Option.some.injEq,Prod.mk.injEq]at hv ⊢
  exact⟨hv.1,trivial⟩
 cases c with
 | true =>
  obtain⟨v,ps,r1,r2⟩:=h1.look_ok skey ht hz (zd:=.held z) (zp:=[]) rfl (xr l hl)
  rw[r1,key' v ps r2,e1]
  rfl
 | false =>
  obtain⟨v,ps,r1,r2⟩:=h1.lookup skey ht hz (zd:=.held z) (zp:=[]) rfl (xr l hl)
  rw[r1,key' v ps r2]
  rfl
theorem uu (w:World) {t e:TypeId}(ht:Tryz.prog.underlying t=some (.map 9 e)) {z:Value}(hz:(zeroValue e).run Tryz.prog w=.ok z w) (l:Bs) (hl:l.length<=1000000) (c:Bool) :
  (Instr.lookup t (.map none) (.string (bs l)) c).run Tryz.prog w=.ok (if c then .tuple #[z,.bool false] else z) w:=Maps.look_nil c skey ht hz (xr l hl)
def updV (f:Bs->Option Value) (k:Bs) (v:Value):Bs->Option Value:=fun s=>if s=k then some v else f s
theorem MapV.store {w:World}{b n:Nat}{f:Bs->Option Value}(h:MapV w b n f) {t e:TypeId}(ht:Tryz.prog.underlying t=some (.map 9 e)) (hn:n<1000000) (l:Bs) (hl:l.length<=1000000) (v:Value) :
  ∃ w',(Instr.mapUpdate t (.map (some b)) (.string (bs l)) v).run Tryz.prog w=.ok () w'/\MapV w' b (n+1) (updV f l v)/\Ext b w w'/\w'.heap.size=w.heap.size:=by
 obtain⟨D,h1,h2⟩:=h.own
 obtain⟨w',r1,r2,r3⟩:=h1.store skey ht (by unfold maxLen;omega) (xr l hl) (d:=.held v) (ps:=[]) rfl
 have hm:=h1.isMap
 refine⟨w',r1,⟨⟨_,r2,fun s=>?_⟩⟩,?_,?_⟩
 ·by_cases hs:s=l
  ·subst hs
   have hk:WideAt.IsKeyLit (.string s):=by simp[WideAt.IsKeyLit]
   refine⟨by rw[has_put_same hm hk];simp[updV],fun u hu z=>?_⟩
   rw[atKey_put_same hm hk]
   simp[updV]at hu
   rw[hu]
  ·have hne:(Lit.string s)≠.string l:=fun e=>hs (by injection e)
   refine⟨by rw[has_put_other hne,(h2 s).1];simp[updV,hs],fun u hu z=>?_⟩
   rw[atKey_put_other hne]
   simp[updV,hs]at hu
   exact(h2 s).2 u hu z
 ·have g:=r3.grown
  exact⟨g.os,g.tape,g.output,g.size,fun k hk hb=>g.block k hk (fun e=>hb (by injection e))⟩
 ·obtain⟨es,clock,es',clock',_,rfl⟩:=r3
  simp[ChangeMaps.setBlock]
end Go.Proofs.YthnoedjbhbkdeaaGreatDoor
namespace Go.Proofs.YthnoedjbhbkdeaaGreatDoor
open Go.RowKit Go.Maps
open Tp (Bs Th)
@[go_sem] theorem zeroTh (w:World):(zeroValue 191).run Tryz.prog w=.ok (.agg #[.int .i64 0,.int .i64 0]) w:=by kernel_rfl
@[go_sem] theorem zeroSyms (w:World):(zeroValue 42).run Tryz.prog w=.ok (.slice none 0 0) w:=by kernel_rfl
def thV (x:Nat× Int):Value:=.agg #[.int .i64 (x.1:Int),.int .i64 x.2]
theorem kh (en pl:Nat) (w:World) :
  Calls Tryz.prog 189 #[.int .i64 (en:Int),.int .i64 (pl:Int)] w fun e w'=>Thrown w.heap.size (en,pl) e w'/\Below w.heap.size w w':=by
 go_enter Tryz.func189,Tryz.ntmps189
 go_wp2
 exact⟨rfl,⟨⟨w.heap.size,Nat.le_refl _,rfl,by simp[go_sem],by simp[go_sem]⟩⟩,zb _ _⟩
theorem yZ (w:World) :
  Calls Tryz.prog 131 #[] w fun e w'=>e=.returned (.agg #[.int .i64 0,.int .i64 (-1)])/\Below w.heap.size w w':=by
 go_enter Tryz.func131,Tryz.ntmps131
 go_wp2
 exact bodyPost_ret (v:=.agg #[.int .i64 0,.int .i64 (-1)]) (by simp[results,Tryz.results131,go_sem]) rfl ⟨rfl,zb _ _⟩
theorem kind_any (a:Nat) (b:Int) (w:World) :
  Calls Tryz.prog 232 #[.agg #[.int .i64 (a:Int),.int .i64 b]] w fun e w'=>e=.returned (.int .i64 (Tp.kindOf (a,b):Int))/\Below w.heap.size w w':=by
 have hbe:∀ ob,Below w.heap.size w (w.alloc ob):=fun ob=>zb _ _
 have HB:=zh hbe
 clear hbe
 unfold Tp.kindOf
 by_cases h1:0<=b
 ·have h1':b ≥ 0:=h1
  rw[if_pos h1]
  go_enter Tryz.func232,Tryz.ntmps232
  go_wp2
  go_ret
  exact⟨rfl,HB.out _⟩
 ·have h1':¬b ≥ 0:=h1
  rw[if_neg h1]
  by_cases h2:0<a
  ·have h2':(a:Int) > 0:=by omega
   rw[if_pos h2]
   go_enter Tryz.func232,Tryz.ntmps232
   go_wp2
   go_ret
   exact⟨rfl,HB.out _⟩
  ·have h2':¬(a:Int) > 0:=by omega
   rw[if_neg h2]
   go_enter Tryz.func232,Tryz.ntmps232
   go_wp2
   go_ret
   exact⟨rfl,HB.out _⟩
theorem zE (w:World) {ops:Array Oper}{rest:List Oper}{o:Oper}{a:Act}{Q:Exit->Act->World->Prop}
  (hg:o.guard=none) (m x v:Operand) (t:TypeId) (hop:o.op=Op.mapUpdate t m x v) (e:TypeId) (ht:Tryz.prog.underlying t=some (.map 9 e))
  (b n:Nat) (f:Bs->Option Value) (hown:MapV w b n f) (hn:n<1000000) (l:Bs) (hl:l.length<=1000000) (val:Value) (hm:a.eval m=.map (some b)) (hx:a.eval x=.string (bs l)) (hv:a.eval v=val)
  (hK:∀ w',MapV w' b (n+1) (updV f l val)->Ext b w w'->w'.heap.size=w.heap.size->wpList Tryz.prog ops Q rest (a.put o.dst undef) w') :
  wpList Tryz.prog ops Q (o :: rest) a w:=by
 refine wpList_plain hg fun K' hK'=>?_
 obtain⟨w',hrun,r1,r2,r3⟩:=hown.store ht hn l hl val
 unfold Oper.wp
 simp[execOp,hop,hm,hx,hv,hrun,Result.andThen]
 exact hK' _ _ (hK w' r1 r2 r3)
theorem add_no {w:World}{lb n:Nat}{f:Bs->Option Value}(h:MapV w lb n f) (nm:Bs) (hl:nm.length<=1000000) (x:Nat) (y:Int) (pl:Nat) {u:Value}(hu:f nm=some u) (h2:∃ c d,u=.agg #[.int .i64 c,.int .i64 d]) :
  Calls Tryz.prog 126 #[.map (some lb),.string (bs nm),.agg #[.int .i64 (x:Int),.int .i64 y],.int .i64 (pl:Int)] w fun e w'=>Thrown w.heap.size (9,pl) e w'/\Below w.heap.size w w':=by
 obtain⟨c,d,rfl⟩:=h2
 have hlook:∀ ob,(Instr.lookup 122 (.map (some lb)) (.string (bs nm)) true).run Tryz.prog (w.alloc ob)=.ok (.tuple #[.agg #[.int .i64 c,.int .i64 d],.bool true]) (w.alloc ob):=by
  intro ob
  have:=(h.on (w':=w.alloc ob) (Below.heap_alloc _ _ _ h.lt)).look (t:=122) Tryz.underlying122 (zeroTh _) nm hl true
  rw[hu]at this
  exact this
 have HB:Hid (∀ o1 o2,Below w.heap.size w ((w.alloc o1).alloc o2)):=fun o1 o2=>(zb _ _).alloc (by simp) _
 clear h hu
 go_enter Tryz.func126,Tryz.ntmps126
 go_wp2_with fail
 refine(kh 9 pl _).mono ?_
 rintro e w2 ⟨ht,hb2⟩
 obtain⟨ab,h1,rfl,h2,h3⟩:=ht.out
 have hsz:w.heap.size<=ab:=by simp at h1;omega
 have HT:=zh h2
 have HT2:=zh h3
 have HB2:=zh ((HB.out _ _).trans (hb2.mono (by simp;omega)))
 clear h1 h2 h3 hb2 ht
 go_wp2_with fail
 exact⟨rfl,⟨⟨ab,hsz,rfl,HT.out,HT2.out⟩⟩,HB2.out⟩
theorem add_ok {w:World}{lb n:Nat}{f:Bs->Option Value}(h:MapV w lb n f) (hn:n<1000000) (nm:Bs) (hl:nm.length<=1000000) (x:Nat) (y:Int) (pl:Nat) (hu:f nm=none) :
  Calls Tryz.prog 126 #[.map (some lb),.string (bs nm),.agg #[.int .i64 (x:Int),.int .i64 y],.int .i64 (pl:Int)] w fun e w'=>e=.returned (.tuple #[])/\MapV w' lb (n+1) (updV f nm (thV (x,y)))/\Ext lb w w':=by
 have hlook:∀ ob,(Instr.lookup 122 (.map (some lb)) (.string (bs nm)) true).run Tryz.prog (w.alloc ob)=.ok (.tuple #[.agg #[.int .i64 0,.int .i64 0],.bool false]) (w.alloc ob):=by
  intro ob
  have:=(h.on (w':=w.alloc ob) (Below.heap_alloc _ _ _ h.lt)).look (t:=122) Tryz.underlying122 (zeroTh _) nm hl true
  rw[hu]at this
  exact this
 have HB:Hid (∀ o1 o2,Below w.heap.size w ((w.alloc o1).alloc o2)):=fun o1 o2=>(zb _ _).alloc (by simp) _
 have HM:=zh h
 have hlt:=h.lt
 clear h hu
 go_enter Tryz.func126,Tryz.ntmps126
 go_wp2_with (at_mapUpdate;refine zE _ rfl _ _ _ 122 rfl _ Tryz.underlying122 lb n f (HM.out.on ((HB.out _ _).block lb hlt)) hn nm hl (thV (x,y)) rfl rfl rfl ?_;intro w1 q1 q2 q3)
 exact bodyPost_end (results_none rfl _ _ _) rfl ⟨rfl,q1,(Ext.below (HB.out _ _)).trans q2⟩
structure TM (w:World) (gb:Nat) (l:List Th) (i:Nat):Prop where
 mp:MapV w gb i (fun k=>(Tp.lkT (l.take i) k).map thV)
 tw:Tp.twP l 0=Tp.twP l i
theorem TM.on {w w':World}{gb i:Nat}{l:List Th}(h:TM w gb l i) (k:w'.heap[gb]?=w.heap[gb]?):TM w' gb l i:=⟨h.mp.on k,h.tw⟩
theorem TM.zero (w:World) (l:List Th):TM (w.alloc (.map #[] 0)) w.heap.size l 0:=by
 refine⟨?_,rfl⟩
 have:=MapV.made w
 have e:(fun k=>(Tp.lkT (l.take 0) k).map thV)=fun _=>none:=by funext k;simp[Tp.lkT]
 rw[e]
 exact this
theorem TM.dup {w:World}{gb i:Nat}{l:List Th}{x:Th}(h:TM w gb l i) (hx:l[i]?=some x) (hm:x.1∈(l.take i).map (·.1)):Tp.twP l 0=some (9,x.2.1):=by
 rw[h.tw,Tp.twP]
 obtain⟨hi,e⟩:=List.getElem?_eq_some_iff.1 hx
 rw[dif_pos hi,e,if_pos hm]
theorem TM.fin {w:World}{gb i:Nat}{l:List Th}(h:TM w gb l i) (hi:l.length<=i):Tp.twP l 0=none/\MapV w gb i (fun k=>(Tp.lkT l k).map thV):=by
 refine⟨by rw[h.tw,Tp.twP,dif_neg (by omega)],?_⟩
 have:=h.mp
 rw[List.take_of_length_le hi]at this
 exact this
theorem xQ {w:World}{gb i:Nat}{l:List Th}{x0:Bs}{x1 x2:Nat}{x3:Int}(h:TM w gb l i) (hm:x0∈(l.take i).map (·.1)) (hl:x0.length<=1000000) :
  Calls Tryz.prog 126 #[.map (some gb),.string (bs x0),.agg #[.int .i64 (x2:Int),.int .i64 x3],.int .i64 (x1:Int)] w fun e w'=>Thrown w.heap.size (9,x1) e w'/\Below w.heap.size w w':=by
 have hs:=Tp.lkT_some.2 hm
 obtain⟨u,hu⟩:=Option.isSome_iff_exists.1 hs
 exact add_no h.mp x0 hl x2 x3 x1 (u:=thV u) (by simp[hu]) ⟨_,_,rfl⟩
theorem xP {w:World}{gb i:Nat}{l:List Th}{x0:Bs}{x1 x2:Nat}{x3:Int}(h:TM w gb l i) (hx:l[i]?=some (x0,x1,x2,x3)) (hi:i<1000000) (hm:¬x0∈(l.take i).map (·.1)) (hl:x0.length<=1000000) :
  Calls Tryz.prog 126 #[.map (some gb),.string (bs x0),.agg #[.int .i64 (x2:Int),.int .i64 x3],.int .i64 (x1:Int)] w fun e w'=>e=.returned (.tuple #[])/\TM w' gb l (i+1)/\Ext gb w w':=by
 have hn:Tp.lkT (l.take i) x0=none:=by
  cases hq:Tp.lkT (l.take i) x0 with
  | none=>rfl
  | some u=>exact absurd (Tp.lkT_some.1 (by rw[hq];rfl)) hm
 refine(add_ok h.mp hi x0 hl x2 x3 x1 (by simp[hn])).mono ?_
 rintro e w' ⟨h1,h2,h3⟩
 obtain⟨hil,e1⟩:=List.getElem?_eq_some_iff.1 hx
 refine⟨h1,⟨?_,?_⟩,h3⟩
 ·have e2:(fun k=>(Tp.lkT (l.take (i+1)) k).map thV)=updV (fun k=>(Tp.lkT (l.take i) k).map thV) x0 (thV (x2,x3)):=by
   funext k
   rw[List.take_succ_eq_append_getElem hil,e1,Tp.lkT_snoc hm]
   unfold updV
   by_cases hk:k=x0
   ·rw[if_pos hk,if_pos hk];rfl
   ·rw[if_neg hk,if_neg hk]
  rw[e2]
  exact h2
 ·rw[h.tw,Tp.twP,dif_pos hil,e1,if_neg hm]
def MapP (w:World) (l:List Th) (e:Ending) (w':World):Prop:=Below w.heap.size w w'/\match Tp.twP l 0 with
 | none=>∃ gb n,e=.returned (.map (some gb))/\w.heap.size<=gb/\n<=1000000/\MapV w' gb n (fun k=>(Tp.lkT l k).map thV)
 | some er=>Thrown w.heap.size er e w'
def AskTG (w:World) (gn:Nat) (ga:Option Addr) (l:List Th):Prop :=
 ∀ i,i<gn->∃(g:Nat) (x0:Bs) (x1 x2:Nat) (x3:Bool),ga=some ⟨g,0,none⟩/\g<w.heap.size/\w.cell? ⟨g,i * 4,none⟩=some (.string (bs x0))/\w.cell? ⟨g,i * 4+1,none⟩=some (.int .i64 (x1:Int))/\w.cell? ⟨g,i * 4+2,none⟩=some (.int .i64 (x2:Int))/\w.cell? ⟨g,i * 4+3,none⟩=some (.bool x3)/\x0.length<=1000000/\l[i]?=some (x0,x1,x2,-1)
def AskTP (w:World) (gn pn:Nat) (pa:Option Addr) (l:List Th):Prop :=
 ∀ i,i<pn->∃(g:Nat) (x0:Bs) (x1:Nat) (x2:Bool) (y3 y4 y5:Option Addr) (n3 n4 n5 c3 c4 c5:Nat),pa=some ⟨g,0,none⟩/\g<w.heap.size/\w.cell? ⟨g,i * 6,none⟩=some (.string (bs x0))/\w.cell? ⟨g,i * 6+1,none⟩=some (.int .i64 (x1:Int))/\w.cell? ⟨g,i * 6+2,none⟩=some (.bool x2)/\w.cell? ⟨g,i * 6+3,none⟩=some (.slice y3 n3 c3)/\w.cell? ⟨g,i * 6+4,none⟩=some (.slice y4 n4 c4)/\w.cell? ⟨g,i * 6+5,none⟩=some (.slice y5 n5 c5)/\x0.length<=1000000/\l[gn+i]?=some (x0,x1,0,(n3:Int))
theorem ya {w:World}{b:Nat}{v0 v1 v2 v3 v4:Value}{t:TypeId}(h:w.heap[b]?=some (.cells #[v0,v1,v2,v3,v4] t (0,0))):w.cell? ⟨b,0,none⟩=some v0/\w.cell? ⟨b,1,none⟩=some v1/\w.cell? ⟨b,2,none⟩=some v2/\w.cell? ⟨b,3,none⟩=some v3/\w.cell? ⟨b,4,none⟩=some v4 :=
 ⟨(za h).trans rfl,(za h).trans rfl,(za h).trans rfl,(za h).trans rfl,(za h).trans rfl⟩
theorem ym {b B:Nat}{w w':World}(h:Ext b w w') (hb:B<=b) (hs:B<=w.heap.size):Below B w w' :=
 ⟨h.os,h.tape,h.output,h.size,fun k hk=>h.block k (by omega) (by omega)⟩
theorem zA {w:World}{a:Addr}{v:Value}(h:w.cell? a=some v) (ob:Obj):(w.alloc ob).cell? a=some v:=by
 rw[World.cell?_alloc_lt _ _ _ (World.block_lt_of_cell? _ _ h)];exact h
theorem vD {w:World}{nm:Bs}{inn gn pn bn ic gc pc bc:Nat}{ia ga pa ba:Option Addr}{l:List Th}(hG:AskTG w gn ga l) (hP:AskTP w gn pn pa l) (hl:l.length=gn+pn) (hgn:gn<=1000) (hpn:pn<=1000) :
  Calls Tryz.prog 75 #[.agg #[.string (bs nm),.slice ia inn ic,.slice ga gn gc,.slice pa pn pc,.slice ba bn bc]] w (MapP w l):=by
 obtain⟨wm,hwm⟩:∃ wm,wm=w.alloc (.cells #[.string (bs nm),.slice ia inn ic,.slice ga gn gc,.slice pa pn pc,.slice ba bn bc] 27):=⟨_,rfl⟩
 have hblk0:wm.heap[w.heap.size]?=some (.cells #[.string (bs nm),.slice ia inn ic,.slice ga gn gc,.slice pa pn pc,.slice ba bn bc] 27 (0,0)):=by rw[hwm];exact zl _ _
 have hszm:wm.heap.size=w.heap.size+1:=by rw[hwm];simp
 have hbe:Below w.heap.size w (wm.alloc (.map #[] 0)):=by rw[hwm];exact(zb _ _).alloc (by simp) _
 have htm:=TM.zero wm l
 have hblk:(wm.alloc (.map #[] 0)).heap[w.heap.size]?=some (.cells #[.string (bs nm),.slice ia inn ic,.slice ga gn gc,.slice pa pn pc,.slice ba bn bc] 27 (0,0)):=(Below.heap_alloc _ _ _ (by omega)).trans hblk0
 rw[hszm]at htm
 obtain⟨k0,k1,k2,k3,k4⟩:=ya hblk
 have hmm:=@run_makeMap Tryz.prog
 have HG:=zh hG
 have HP:=zh hP
 have HL:=zh hl
 have HK:=zh hblk
 have HT:=zh htm
 have HBE:=zh hbe
 have HSM:=zh hszm
 have hgn':(gn:Int)<=1000:=by omega
 have hpn':(pn:Int)<=1000:=by omega
 clear hG hP hl hblk htm hbe k0 k1 k3 k4 hblk0
 go_enter Tryz.func75,Tryz.ntmps75
 go_wp2_with fail
 rw[<-hwm]
 have hsz0:w.heap.size+2<=(wm.alloc (.map #[] 0)).heap.size:=by simp;omega
 have hs1:(w.alloc (.cells #[.string (bs nm),.slice ia inn ic,.slice ga gn gc,.slice pa pn pc,.slice ba bn bc] 27)).heap.size=w.heap.size+1:=by simp
 generalize wm.alloc (.map #[] 0)=w0 at *
 clear hwm HSM hszm wm hmm
 go_loopg [12] gn (fun k vi wr=>∃ i:Nat,i<=gn/\k=gn - i/\vi=.int .i64 (i:Int)/\Hid (TM wr (w.heap.size+1) l i)/\Hid (Ext (w.heap.size+1) w0 wr))
 case atStart=>exact⟨0,by omega,by omega,rfl,HT,Ext.refl _ _⟩
 case round =>
  obtain⟨i,hid,hk,rfl,HTM,HE⟩:=hrel
  have hsz:=HE.out.size
  by_cases hlt:i<gn
  ·have hlt':(i:Int)<(gn:Int):=by omega
   obtain⟨g,x0,x1,x2,x3,hga,hgB,c0,c1',c2,c3,hxl,hx⟩:=HG.out i hlt
   subst hga
   have hcell:∀(o:Nat) (u:Value),w.cell? ⟨g,o,none⟩=some u->wr.cell? ⟨g,o,none⟩=some u:=fun o u h=>HE.out.cell ((HBE.out.cell (p:=⟨g,o,none⟩) hgB).trans h) (by simp;omega)
   have kc0:=hcell _ _ c0
   have kc1:=hcell _ _ c1'
   have kc2:=hcell _ _ c2
   have kc3:=hcell _ _ c3
   have hlgr:g<wr.heap.size:=by omega
   have HX:=zh hx
   have HTA:Hid (∀ ob,TM (wr.alloc ob) (w.heap.size+1) l i):=fun ob=>HTM.out.on (Below.heap_alloc _ _ _ (by omega))
   have HEA:Hid (∀ ob,Ext (w.heap.size+1) w0 (wr.alloc ob)):=fun ob=>HE.out.trans (Ext.below (zb _ _))
   clear c0 c1' c2 c3 hcell hx
   by_cases hm:x0∈(l.take i).map (·.1)
   ·have HM:=zh hm
    clear hm
    go_wp2_with fail
    refine(xQ (HTA.out _) HM.out hxl).mono ?_
    rintro e w3 ⟨ht,hb3⟩
    have HD:=zh (HTM.out.dup HX.out HM.out)
    have HB3:Hid (Below w.heap.size w w3):=(HBE.out.trans (ym (HEA.out _) (by omega) (by omega))).trans (hb3.mono (by simp;omega))
    have HT3:=zh (ht.mono (B':=w.heap.size) (by simp;omega))
    obtain⟨ab,q1,rfl,q2,q3⟩:=ht.out
    clear ht hb3 q1 q2 q3
    go_wp2_with fail
    refine⟨rfl,HB3.out,?_⟩
    rw[HD.out]
    exact HT3.out
   ·have HM:=zh hm
    clear hm
    go_wp2_with fail
    refine(xP (HTA.out _) HX.out (by omega) HM.out hxl).mono ?_
    rintro e w3 ⟨rfl,ht,hb3⟩
    have HT3:=zh ht
    have HE3:=zh ((HEA.out _).trans hb3)
    clear ht hb3
    go_wp2_with fail
    go_roundg (gn - (i+1))
    case measure=>omega
    case rel=>exact⟨i+1,by omega,rfl,by go_num,HT3,HE3⟩
  ·have hlt':¬(i:Int)<(gn:Int):=by omega
   have hei:i=gn:=by omega
   subst hei
   have k3:wr.cell? ⟨w.heap.size,3,none⟩=some (.slice pa pn pc):=HE.out.cell (ya HK.out).2.2.2.1 (by simp)
   have hltb:w.heap.size<wr.heap.size:=by omega
   have HTM1:Hid (TM wr (w.heap.size+1) l (i+0)):=HTM
   have HE1:=HE
   clear HTM HE HG k2 hsz HT
   go_wp2_with fail
   go_loopg [29] pn (fun k vi wr=>∃ j:Nat,j<=pn/\k=pn - j/\vi=.int .i64 (j:Int)/\Hid (TM wr (w.heap.size+1) l (i+j))/\Hid (Ext (w.heap.size+1) w0 wr))
   case atStart=>exact⟨0,by omega,by omega,rfl,HTM1,HE1⟩
   case round =>
    obtain⟨j,hjd,hk2,rfl,HTM,HE⟩:=hrel
    have hsz:=HE.out.size
    clear HTM1 HE1 k3 hltb
    by_cases hlt2:j<pn
    ·have hlt2':(j:Int)<(pn:Int):=by omega
     obtain⟨g,x0,x1,x2,y3,y4,y5,n3,n4,n5,d3,d4,d5,hpa,hgB,c0,c1',c2,c3,c4,c5,hxl,hx⟩:=HP.out j hlt2
     subst hpa
     have hcell:∀(o:Nat) (u:Value),w.cell? ⟨g,o,none⟩=some u->wr.cell? ⟨g,o,none⟩=some u:=fun o u h=>HE.out.cell ((HBE.out.cell (p:=⟨g,o,none⟩) hgB).trans h) (by simp;omega)
     have kc0:=hcell _ _ c0
     have kc1:=hcell _ _ c1'
     have kc2:=hcell _ _ c2
     have kc3:=hcell _ _ c3
     have kc4:=hcell _ _ c4
     have kc5:=hcell _ _ c5
     have hlgr:g<wr.heap.size:=by omega
     have HX:=zh hx
     have HTA:Hid (∀ ob,TM (wr.alloc ob) (w.heap.size+1) l (i+j)):=fun ob=>HTM.out.on (Below.heap_alloc _ _ _ (by omega))
     have HEA:Hid (∀ ob,Ext (w.heap.size+1) w0 (wr.alloc ob)):=fun ob=>HE.out.trans (Ext.below (zb _ _))
     clear c0 c1' c2 c3 c4 c5 hcell hx
     by_cases hm:x0∈(l.take (i+j)).map (·.1)
     ·have HM:=zh hm
      clear hm
      go_wp2_with fail
      refine(xQ (x2:=0) (x3:=(n3:Int)) (HTA.out _) HM.out hxl).mono ?_
      rintro e w3 ⟨ht,hb3⟩
      have HD:=zh (HTM.out.dup HX.out HM.out)
      have HB3:Hid (Below w.heap.size w w3):=(HBE.out.trans (ym (HEA.out _) (by omega) (by omega))).trans (hb3.mono (by simp;omega))
      have HT3:=zh (ht.mono (B':=w.heap.size) (by simp;omega))
      obtain⟨ab,q1,rfl,q2,q3⟩:=ht.out
      clear ht hb3 q1 q2 q3
      go_wp2_with fail
      refine⟨rfl,HB3.out,?_⟩
      rw[HD.out]
      exact HT3.out
     ·have HM:=zh hm
      clear hm
      go_wp2_with fail
      refine(xP (x2:=0) (x3:=(n3:Int)) (HTA.out _) HX.out (by omega) HM.out hxl).mono ?_
      rintro e w3 ⟨rfl,ht,hb3⟩
      have HT3:Hid (TM w3 (w.heap.size+1) l (i+(j+1))):=ht
      have HE3:=zh ((HEA.out _).trans hb3)
      clear ht hb3
      go_wp2_with fail
      go_roundg (pn - (j+1))
      case measure=>omega
      case rel=>exact⟨j+1,by omega,rfl,by go_num,HT3,HE3⟩
    ·have hlt2':¬(j:Int)<(pn:Int):=by omega
     have hej:j=pn:=by omega
     subst hej
     obtain⟨f1,f2⟩:=HTM.out.fin (by have:=HL.out;omega)
     have HF1:=zh f1
     have HF2:=zh f2
     have HB3:Hid (Below w.heap.size w wr):=HBE.out.trans (ym HE.out (by omega) (by omega))
     clear f1 f2 HTM HE
     go_wp2_with fail
     go_ret
     refine⟨HB3.out,?_⟩
     rw[HF1.out]
     exact⟨_,_,rfl,by omega,by omega,HF2.out⟩
theorem xj {P:Program}{f:FuncId}{args:Array Value}{w:World}{R T:Ending->World->Prop}(h:Calls P f args w T) (hT:∀ e w',T e w'->R e w') (_:Hid False->R (.returned (.tuple #[])) w):Calls P f args w R:=h.mono hT
def AskTN (w:World) (o pn:Nat) (pa:Option Addr) (pl:Nat) (l:List Th):Prop :=
 ∀ i,i<pn->∃(g:Nat) (x0:Bs),pa=some ⟨g,0,none⟩/\g<w.heap.size/\w.cell? ⟨g,i,none⟩=some (.string (bs x0))/\x0.length<=1000000/\l[o+i]?=some (x0,pl,0,-1)
theorem yT {w:World}{b:Nat}{v0 v1 v2 v3 v4 v5:Value}{t:TypeId}(h:w.heap[b]?=some (.cells #[v0,v1,v2,v3,v4,v5] t (0,0))):w.cell? ⟨b,0,none⟩=some v0/\w.cell? ⟨b,1,none⟩=some v1/\w.cell? ⟨b,2,none⟩=some v2/\w.cell? ⟨b,3,none⟩=some v3/\w.cell? ⟨b,4,none⟩=some v4/\w.cell? ⟨b,5,none⟩=some v5 :=
 ⟨(za h).trans rfl,(za h).trans rfl,(za h).trans rfl,(za h).trans rfl,(za h).trans rfl,(za h).trans rfl⟩
theorem uz {w:World}{nm:Bs}{pl:Nat}{sn:Bool}{pn vn bn pc vc bc:Nat}{pa va ba:Option Addr}{l:List Th}(hG:AskTN w 0 pn pa pl l) (hP:AskTN w pn vn va pl l) (hl:l.length=pn+vn) (hgn:pn<=1000) (hpn:vn<=1000) :
  Calls Tryz.prog 78 #[.agg #[.string (bs nm),.int .i64 (pl:Int),.bool sn,.slice pa pn pc,.slice va vn vc,.slice ba bn bc]] w (MapP w l):=by
 obtain⟨wm,hwm⟩:∃ wm,wm=w.alloc (.cells #[.string (bs nm),.int .i64 (pl:Int),.bool sn,.slice pa pn pc,.slice va vn vc,.slice ba bn bc] 74):=⟨_,rfl⟩
 have hblk0:wm.heap[w.heap.size]?=some (.cells #[.string (bs nm),.int .i64 (pl:Int),.bool sn,.slice pa pn pc,.slice va vn vc,.slice ba bn bc] 74 (0,0)):=by rw[hwm];exact zl _ _
 have hszm:wm.heap.size=w.heap.size+1:=by rw[hwm];simp
 have hbe:Below w.heap.size w (wm.alloc (.map #[] 0)):=by rw[hwm];exact(zb _ _).alloc (by simp) _
 have htm:=TM.zero wm l
 have hblk:(wm.alloc (.map #[] 0)).heap[w.heap.size]?=some (.cells #[.string (bs nm),.int .i64 (pl:Int),.bool sn,.slice pa pn pc,.slice va vn vc,.slice ba bn bc] 74 (0,0)):=(Below.heap_alloc _ _ _ (by omega)).trans hblk0
 rw[hszm]at htm
 obtain⟨k0,k1,k2,k3,k4,k5⟩:=yT hblk
 have hmm:=@run_makeMap Tryz.prog
 have HG:=zh hG
 have HP:=zh hP
 have HL:=zh hl
 have HK:=zh hblk
 have HT:=zh htm
 have HBE:=zh hbe
 have HSM:=zh hszm
 have hgn':(pn:Int)<=1000:=by omega
 have hpn':(vn:Int)<=1000:=by omega
 clear hG hP hl hblk htm hbe k0 k1 k2 k4 k5 hblk0
 go_enter Tryz.func78,Tryz.ntmps78
 go_wp2_with fail
 rw[<-hwm]
 have hsz0:w.heap.size+2<=(wm.alloc (.map #[] 0)).heap.size:=by simp;omega
 generalize wm.alloc (.map #[] 0)=w0 at *
 clear hwm HSM hszm wm hmm
 go_loopg [12] pn (fun k vi wr=>∃ i:Nat,i<=pn/\k=pn - i/\vi=.int .i64 (i:Int)/\Hid (TM wr (w.heap.size+1) l i)/\Hid (Ext (w.heap.size+1) w0 wr))
 case atStart=>exact⟨0,by omega,by omega,rfl,HT,Ext.refl _ _⟩
 case round =>
  obtain⟨i,hid,hk,rfl,HTM,HE⟩:=hrel
  have hsz:=HE.out.size
  by_cases hlt:i<pn
  ·have hlt':(i:Int)<(pn:Int):=by omega
   obtain⟨g,x0,hga,hgB,c0,hxl,hx⟩:=HG.out i hlt
   rw[Nat.zero_add]at hx
   subst hga
   have kc0:wr.cell? ⟨g,i,none⟩=some (.string (bs x0)):=HE.out.cell ((HBE.out.cell (p:=⟨g,i,none⟩) hgB).trans c0) (by simp;omega)
   have hlgr:g<wr.heap.size:=by omega
   have HX:=zh hx
   have HC1:Hid (wr.drew.cell? ⟨w.heap.size,1,none⟩=some (.int .i64 (pl:Int))):=HE.out.cell (yT HK.out).2.1 (by simp)
   clear c0 hx
   by_cases hm:x0∈(l.take i).map (·.1)
   ·have HM:=zh hm
    clear hm
    go_wp2_with fail
    go_region_held (fun w'=>w'.cell? ⟨w.heap.size,1,none⟩=some (.int .i64 (pl:Int))) (with_reducible (first|exact hF.out.elim|exact HC2.out|exact HC1.out)) (first|(go_at_call 131;refine(yZ _).mono ?_;rintro e w2 ⟨rfl,hb2⟩;have HB2:Hid (Below wr.heap.size wr w2):=((Below.refl wr.heap.size wr).drew).trans hb2;have HC2:Hid (w2.cell? ⟨w.heap.size,1,none⟩=some (.int .i64 (pl:Int))):=(hb2.cell (p:=⟨w.heap.size,1,none⟩) (zi HC1.out)).trans HC1.out;clear hb2)|(go_at_call 126;refine xj (xQ (x2:=0) (x3:=-1) (HTM.out.on (HB2.out.block _ (by omega))) HM.out hxl) ?hT ?_;(case hT=>(rintro e w3 ⟨ht,hb3⟩;have HD:=zh (HTM.out.dup HX.out HM.out);have HB3:Hid (Below w.heap.size w w3):=((HBE.out.trans (ym HE.out (by omega) (by omega))).trans (HB2.out.mono (by omega))).trans (hb3.mono (by have:=HB2.out.size;omega));have HT3:=zh (ht.mono (B':=w.heap.size) (by have:=HB2.out.size;omega));obtain⟨ab,q1,rfl,q2,q3⟩:=ht.out;refine⟨rfl,HB3.out,?_⟩;rw[HD.out];exact HT3.out));intro hF))
    exact hF.out.elim
   ·have HM:=zh hm
    clear hm
    go_wp2_with fail
    go_region_held3 (fun w'=>w'.cell? ⟨w.heap.size,1,none⟩=some (.int .i64 (pl:Int))) (with_reducible (first|exact HC3.out|exact HC2.out|exact HC1.out)) (first|(go_at_call 131;refine(yZ _).mono ?_;rintro e w2 ⟨rfl,hb2⟩;have HB2:Hid (Below wr.heap.size wr w2):=((Below.refl wr.heap.size wr).drew).trans hb2;have HC2:Hid (w2.cell? ⟨w.heap.size,1,none⟩=some (.int .i64 (pl:Int))):=(hb2.cell (p:=⟨w.heap.size,1,none⟩) (zi HC1.out)).trans HC1.out;clear hb2)|(go_at_call 126;refine(xP (x2:=0) (x3:=-1) (HTM.out.on (HB2.out.block _ (by omega))) HX.out (by omega) HM.out hxl).mono ?_;rintro e w3 ⟨rfl,ht,hb3⟩;have HT3:=zh ht;have HE3:Hid (Ext (w.heap.size+1) w0 w3):=(HE.out.trans (Ext.below HB2.out)).trans hb3;have HC3:Hid (w3.cell? ⟨w.heap.size,1,none⟩=some (.int .i64 (pl:Int))):=hb3.cell HC2.out (by simp);clear ht hb3))
    go_wp2_with fail
    go_roundg (pn - (i+1))
    case measure=>omega
    case rel=>exact⟨i+1,by omega,rfl,by go_num,HT3,HE3⟩
  ·have hlt':¬(i:Int)<(pn:Int):=by omega
   have hei:i=pn:=by omega
   subst hei
   have k4:wr.cell? ⟨w.heap.size,4,none⟩=some (.slice va vn vc):=HE.out.cell (yT HK.out).2.2.2.2.1 (by simp)
   have hltb:w.heap.size<wr.heap.size:=by omega
   have HTM1:Hid (TM wr (w.heap.size+1) l (i+0)):=HTM
   have HE1:=HE
   clear HTM HE HG k3 hsz HT
   go_wp2_with fail
   go_loopg [26] vn (fun k vi wr=>∃ j:Nat,j<=vn/\k=vn - j/\vi=.int .i64 (j:Int)/\Hid (TM wr (w.heap.size+1) l (i+j))/\Hid (Ext (w.heap.size+1) w0 wr))
   case atStart=>exact⟨0,by omega,by omega,rfl,HTM1,HE1⟩
   case round =>
    obtain⟨j,hjd,hk2,rfl,HTM,HE⟩:=hrel
    have hsz:=HE.out.size
    clear HTM1 HE1 k4 hltb
    by_cases hlt2:j<vn
    ·have hlt2':(j:Int)<(vn:Int):=by omega
     obtain⟨g,x0,hga,hgB,c0,hxl,hx⟩:=HP.out j hlt2
     subst hga
     have kc0:wr.cell? ⟨g,j,none⟩=some (.string (bs x0)):=HE.out.cell ((HBE.out.cell (p:=⟨g,j,none⟩) hgB).trans c0) (by simp;omega)
     have hlgr:g<wr.heap.size:=by omega
     have HX:=zh hx
     have HC1:Hid (wr.drew.cell? ⟨w.heap.size,1,none⟩=some (.int .i64 (pl:Int))):=HE.out.cell (yT HK.out).2.1 (by simp)
     clear c0 hx
     by_cases hm:x0∈(l.take (i+j)).map (·.1)
     ·have HM:=zh hm
      clear hm
      go_wp2_with fail
      go_region_held (fun w'=>w'.cell? ⟨w.heap.size,1,none⟩=some (.int .i64 (pl:Int))) (with_reducible (first|exact hF.out.elim|exact HC2.out|exact HC1.out)) (first|(go_at_call 131;refine(yZ _).mono ?_;rintro e w2 ⟨rfl,hb2⟩;have HB2:Hid (Below wr.heap.size wr w2):=((Below.refl wr.heap.size wr).drew).trans hb2;have HC2:Hid (w2.cell? ⟨w.heap.size,1,none⟩=some (.int .i64 (pl:Int))):=(hb2.cell (p:=⟨w.heap.size,1,none⟩) (zi HC1.out)).trans HC1.out;clear hb2)|(go_at_call 126;refine xj (xQ (x2:=0) (x3:=-1) (HTM.out.on (HB2.out.block _ (by omega))) HM.out hxl) ?hT ?_;(case hT=>(rintro e w3 ⟨ht,hb3⟩;have HD:=zh (HTM.out.dup HX.out HM.out);have HB3:Hid (Below w.heap.size w w3):=((HBE.out.trans (ym HE.out (by omega) (by omega))).trans (HB2.out.mono (by omega))).trans (hb3.mono (by have:=HB2.out.size;omega));have HT3:=zh (ht.mono (B':=w.heap.size) (by have:=HB2.out.size;omega));obtain⟨ab,q1,rfl,q2,q3⟩:=ht.out;refine⟨rfl,HB3.out,?_⟩;rw[HD.out];exact HT3.out));intro hF))
      exact hF.out.elim
     ·have HM:=zh hm
      clear hm
      go_wp2_with fail
      go_region_held3 (fun w'=>w'.cell? ⟨w.heap.size,1,none⟩=some (.int .i64 (pl:Int))) (with_reducible (first|exact HC3.out|exact HC2.out|exact HC1.out)) (first|(go_at_call 131;refine(yZ _).mono ?_;rintro e w2 ⟨rfl,hb2⟩;have HB2:Hid (Below wr.heap.size wr w2):=((Below.refl wr.heap.size wr).drew).trans hb2;have HC2:Hid (w2.cell? ⟨w.heap.size,1,none⟩=some (.int .i64 (pl:Int))):=(hb2.cell (p:=⟨w.heap.size,1,none⟩) (zi HC1.out)).trans HC1.out;clear hb2)|(go_at_call 126;refine(xP (x2:=0) (x3:=-1) (HTM.out.on (HB2.out.block _ (by omega))) HX.out (by omega) HM.out hxl).mono ?_;rintro e w3 ⟨rfl,ht,hb3⟩;have HT3:Hid (TM w3 (w.heap.size+1) l (i+(j+1))):=ht;have HE3:Hid (Ext (w.heap.size+1) w0 w3):=(HE.out.trans (Ext.below HB2.out)).trans hb3;have HC3:Hid (w3.cell? ⟨w.heap.size,1,none⟩=some (.int .i64 (pl:Int))):=hb3.cell HC2.out (by simp);clear ht hb3))
      go_wp2_with fail
      go_roundg (vn - (j+1))
      case measure=>omega
      case rel=>exact⟨j+1,by omega,rfl,by go_num,HT3,HE3⟩
    ·have hlt2':¬(j:Int)<(vn:Int):=by omega
     have hej:j=vn:=by omega
     subst hej
     obtain⟨f1,f2⟩:=HTM.out.fin (by have:=HL.out;omega)
     have HF1:=zh f1
     have HF2:=zh f2
     have HB3:Hid (Below w.heap.size w wr):=HBE.out.trans (ym HE.out (by omega) (by omega))
     clear f1 f2 HTM HE
     go_wp2_with fail
     go_ret
     refine⟨HB3.out,?_⟩
     rw[HF1.out]
     exact⟨_,_,rfl,by omega,by omega,HF2.out⟩
end Go.Proofs.YthnoedjbhbkdeaaGreatDoor
