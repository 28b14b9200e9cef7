import Derived.Test.YtibncofnnlbmcaaGreatDoorKWi
import Derived.Test.YtibncofnnlbmcaaGreatDoorKPb
import Derived.Laws.EntriesVeiled
import Derived.Lib.ConvBytes
import Derived.Defers
import Derived.Recover
set_option maxRecDepth 100000
set_option maxHeartbeats 4000000
namespace Go.Proofs.YtibncofnnlbmcaaGreatDoor
open Go.RowKit
open Tp (Tok hd tx at' stp)
def mks:List Value:=[.string ⟨#[58,61]⟩,.string ⟨#[60,61]⟩,.string ⟨#[62,61]⟩,.string ⟨#[35]⟩,.string ⟨#[61]⟩,.string ⟨#[60]⟩,.string ⟨#[62]⟩,.string ⟨#[43]⟩,.string ⟨#[45]⟩,.string ⟨#[42]⟩,.string ⟨#[40]⟩,.string ⟨#[41]⟩,.string ⟨#[91]⟩,.string ⟨#[93]⟩,.string ⟨#[44]⟩,.string ⟨#[59]⟩,.string ⟨#[58]⟩,.string ⟨#[46]⟩]
def Mk (w:World):Prop:=1<w.heap.size/\∀i,i<18->w.cell? ⟨1,i,none⟩=some (mks.getD i undef)
theorem Mk.below {w w':World}{B:Nat}(h:Mk w)(k:Below B w w')(a:1<B):Mk w' :=
 ⟨Nat.lt_of_lt_of_le h.1 k.size,fun i b=>(k.cell (p:=⟨1,i,none⟩) a).trans (h.2 i b)⟩
def mkAgg:Value:=.agg mks.toArray
theorem mk_load {w:World}(h:Mk w):(Instr.loadAt 174 (.pointer (some ⟨1,0,none⟩))).run Tryz.prog w=.ok mkAgg w:=by
 have d:=x6 (P:=Tryz.prog) (w:=w) ⟨1,0,none⟩ mks 18 0 #[] (fun j _ f=>by have e:=h.2 j (by omega);by_cases a:j=0<;>simpa[Addr.add,a] using e) (by decide)
 have b:(isAgg 174).run Tryz.prog w=.ok true w:=by kernel_rfl
 have c:(sizeOf 174).run Tryz.prog w=.ok 18 w:=by kernel_rfl
 simp only[Instr.loadAt,Instr.sureAddr,loadVar,loadCells,Sem.run_bind,Result.andThen]
 simp[b,c,d,mkAgg,mks]
theorem mk_idx0 (w:World):(Instr.index 174 mkAgg (.int .i64 0)).run Tryz.prog w=.ok (.string ⟨#[58,61]⟩) w:=by kernel_rfl
theorem mk_idx1 (w:World):(Instr.index 174 mkAgg (.int .i64 1)).run Tryz.prog w=.ok (.string ⟨#[60,61]⟩) w:=by kernel_rfl
theorem mk_idx2 (w:World):(Instr.index 174 mkAgg (.int .i64 2)).run Tryz.prog w=.ok (.string ⟨#[62,61]⟩) w:=by kernel_rfl
theorem mk_idx3 (w:World):(Instr.index 174 mkAgg (.int .i64 3)).run Tryz.prog w=.ok (.string ⟨#[35]⟩) w:=by kernel_rfl
theorem mk_idx4 (w:World):(Instr.index 174 mkAgg (.int .i64 4)).run Tryz.prog w=.ok (.string ⟨#[61]⟩) w:=by kernel_rfl
theorem mk_idx5 (w:World):(Instr.index 174 mkAgg (.int .i64 5)).run Tryz.prog w=.ok (.string ⟨#[60]⟩) w:=by kernel_rfl
theorem mk_idx6 (w:World):(Instr.index 174 mkAgg (.int .i64 6)).run Tryz.prog w=.ok (.string ⟨#[62]⟩) w:=by kernel_rfl
theorem mk_idx7 (w:World):(Instr.index 174 mkAgg (.int .i64 7)).run Tryz.prog w=.ok (.string ⟨#[43]⟩) w:=by kernel_rfl
theorem mk_idx8 (w:World):(Instr.index 174 mkAgg (.int .i64 8)).run Tryz.prog w=.ok (.string ⟨#[45]⟩) w:=by kernel_rfl
theorem mk_idx9 (w:World):(Instr.index 174 mkAgg (.int .i64 9)).run Tryz.prog w=.ok (.string ⟨#[42]⟩) w:=by kernel_rfl
theorem mk_idx10 (w:World):(Instr.index 174 mkAgg (.int .i64 10)).run Tryz.prog w=.ok (.string ⟨#[40]⟩) w:=by kernel_rfl
theorem mk_idx11 (w:World):(Instr.index 174 mkAgg (.int .i64 11)).run Tryz.prog w=.ok (.string ⟨#[41]⟩) w:=by kernel_rfl
theorem mk_idx12 (w:World):(Instr.index 174 mkAgg (.int .i64 12)).run Tryz.prog w=.ok (.string ⟨#[91]⟩) w:=by kernel_rfl
theorem mk_idx13 (w:World):(Instr.index 174 mkAgg (.int .i64 13)).run Tryz.prog w=.ok (.string ⟨#[93]⟩) w:=by kernel_rfl
theorem mk_idx14 (w:World):(Instr.index 174 mkAgg (.int .i64 14)).run Tryz.prog w=.ok (.string ⟨#[44]⟩) w:=by kernel_rfl
theorem mk_idx15 (w:World):(Instr.index 174 mkAgg (.int .i64 15)).run Tryz.prog w=.ok (.string ⟨#[59]⟩) w:=by kernel_rfl
theorem mk_idx16 (w:World):(Instr.index 174 mkAgg (.int .i64 16)).run Tryz.prog w=.ok (.string ⟨#[58]⟩) w:=by kernel_rfl
theorem mk_idx17 (w:World):(Instr.index 174 mkAgg (.int .i64 17)).run Tryz.prog w=.ok (.string ⟨#[46]⟩) w:=by kernel_rfl
theorem TxAt.below {w w':World}{B a:Nat}{l:List UInt8}(h:TxAt w a l)(k:Below B w w')(b:a<B):TxAt w' a l :=
 fun j c d=>(k.cell (p:=⟨a,j,none⟩) b).trans (h j c d)
theorem conv_at {w:World}{a i cap:Nat}{l m:List UInt8}(h:TxAt w a l)(c:(l.drop i).take m.length=m):(convert 81 9 (.slice (some ⟨a,i,none⟩) m.length cap)).run Tryz.prog w=.ok (.string (bs m)) w:=by
 refine run_convert_bytes_back w 81 9 5 ⟨a,i,none⟩ cap m Tryz.underlying81 Tryz.underlying5 Tryz.underlying9 (fun j b=>?_)
 rw[Addr.add_lit]
 refine h (i+j) _ ?_
 have e:((l.drop i).take m.length)[j]?=m[j]?:=by rw[c]
 rw[List.getElem?_take_of_lt b,List.getElem?_drop]at e
 rw[e,List.getElem?_eq_getElem b]
theorem jG {w:World}{c:UInt8}{t:Bool}(h:Hid (Tp.letter c=t)):Calls Tryz.prog 99 #[.int .u8 (c.toNat:Int)] w fun e w'=>e=.returned (.bool t)/\w'=w:=by
 have:=jd w c;rw[h.out]at this;exact this
theorem digit_is {w:World}{c:UInt8}{t:Bool}(h:Hid (Tp.digit c=t)):Calls Tryz.prog 100 #[.int .u8 (c.toNat:Int)] w fun e w'=>e=.returned (.bool t)/\w'=w:=by
 have:=kP w c;rw[h.out]at this;exact this
def M (k:Nat):List UInt8:=Tp.marks.getD k []
theorem mark_drop (k:Nat)(h:k<18):Tp.marks.drop k=M k :: Tp.marks.drop (k+1):=by
 have a:k<Tp.marks.length:=h
 rw[List.drop_eq_getElem_cons a]
 simp[M,List.getD_eq_getElem?_getD,List.getElem?_eq_getElem a]
theorem uM (m l:List UInt8)(i:Nat)(h:l.length<i+m.length)(b:i<=l.length):m.isPrefixOf (l.drop i)=false:=by
 rw[Bool.eq_false_iff]
 intro a
 have:=(List.isPrefixOf_iff_prefix.1 a).length_le
 simp at this
 omega
theorem prefix_iff (m l:List UInt8)(i:Nat)(_h:i+m.length<=l.length):m.isPrefixOf (l.drop i)=decide ((l.drop i).take m.length=m):=by
 rw[Bool.eq_iff_iff,decide_eq_true_iff,List.isPrefixOf_iff_prefix]
 constructor
 ·intro a;exact(List.prefix_iff_eq_take.1 a).symm
 ·intro a;rw[<-a];exact List.take_prefix _ _
def CutPost (w:World) (l:List UInt8) (i:Nat) (e:Ending) (w':World):Prop :=
 match Tp.marks.find? (fun m=>m.isPrefixOf (l.drop i)) with
 |some m=>e=.returned (.tuple #[.int .i64 3,.int .i64 ((i+m.length:Nat):Int)])
 |none=>Thrown w.heap.size (3,i) e w'
theorem M_len (k:Nat)(h:k<18):1<=(M k).length/\(M k).length<=2:=by
 have:∀k,k<18->1<=(M k).length/\(M k).length<=2:=by decide
 exact this k h
theorem mk_idx (w:World)(k:Nat)(h:k<18):(Instr.index 174 mkAgg (.int .i64 (k:Int))).run Tryz.prog w=.ok (.string (bs (M k))) w:=by
 match k,h with
 | 0,_=>exact mk_idx0 w
 | 1,_=>exact mk_idx1 w
 | 2,_=>exact mk_idx2 w
 | 3,_=>exact mk_idx3 w
 | 4,_=>exact mk_idx4 w
 | 5,_=>exact mk_idx5 w
 | 6,_=>exact mk_idx6 w
 | 7,_=>exact mk_idx7 w
 | 8,_=>exact mk_idx8 w
 | 9,_=>exact mk_idx9 w
 | 10,_=>exact mk_idx10 w
 | 11,_=>exact mk_idx11 w
 | 12,_=>exact mk_idx12 w
 | 13,_=>exact mk_idx13 w
 | 14,_=>exact mk_idx14 w
 | 15,_=>exact mk_idx15 w
 | 16,_=>exact mk_idx16 w
 | 17,_=>exact mk_idx17 w
 |n+18,h=>omega
theorem cut_word {w:World}{a cap:Nat}{l:List UInt8}(c:TxAt w a l)(f:a<w.heap.size)(i:Nat)(k:i<l.length)(m:l.length<=100000)(d:Tp.letter l[i]=true) :
  Calls Tryz.prog 59 #[.slice (some ⟨a,0,none⟩) l.length cap,.int .i64 (i:Int)] w fun e w'=>e=.returned (.tuple #[.int .i64 1,.int .i64 (pastI Tp.ld l i:Int)])/\Below w.heap.size w w':=by
 have p:=zm
 have n:=c i l[i] (List.getElem?_eq_getElem k)
 have o:(i:Int)<(l.length:Int):=by omega
 have h:Hid (TxAt w a l):=c
 have j:Hid (Tp.letter l[i]=true):=d
 clear c d
 go_enter Tryz.func59,Tryz.ntmps59
 go_wp2_with fail
 go_quiet ((go_at_call 99;exact Calls.quiet_of_same (jG j)))
 go_wp2_with fail
 have b:Below w.heap.size w (((w.alloc (.cells #[.func (.func 99) #[] #[]] 119)).alloc (.cells #[.func (.func 100) #[] #[]] 119)).drewN nq):=below_drewN ((zb _ _).alloc (by simp) _) nq
 refine(past_ld (h.out.below b f) i (by omega) m w.heap.size (w.heap.size+1) (by simp[go_sem]) (by simp[go_sem])).mono ?_
 rintro e q⟨rfl,rfl⟩
 have g:Hid (Below w.heap.size w (((w.alloc (.cells #[.func (.func 99) #[] #[]] 119)).alloc (.cells #[.func (.func 100) #[] #[]] 119)).drewN nq)):=b
 clear b
 go_wp2_with fail
 go_ret2
 exact⟨rfl,g.out⟩
theorem cut_num {w:World}{b cap:Nat}{l:List UInt8}(d:TxAt w b l)(j:b<w.heap.size)(i:Nat)(q:i<l.length)(r:l.length<=100000)(k:Tp.letter l[i]=false)(hd:Tp.digit l[i]=true) :
  Calls Tryz.prog 59 #[.slice (some ⟨b,0,none⟩) l.length cap,.int .i64 (i:Int)] w fun e w'=>e=.returned (.tuple #[.int .i64 2,.int .i64 (pastI Tp.digit l i:Int)])/\Below w.heap.size w w':=by
 have v:=zm
 have f:=d i l[i] (List.getElem?_eq_getElem q)
 have u:(i:Int)<(l.length:Int):=by omega
 have n:Hid (TxAt w b l):=d
 have o:Hid (Tp.letter l[i]=false):=k
 have m:Hid (Tp.digit l[i]=true):=hd
 clear d k hd
 go_enter Tryz.func59,Tryz.ntmps59
 go_wp2_with fail
 go_quiet ((go_at_call 99;exact Calls.quiet_of_same (jG o)))
 go_wp2_with fail
 obtain⟨a,c⟩:∃a,a=(((w.alloc (.cells #[.func (.func 99) #[] #[]] 119)).alloc (.cells #[.func (.func 100) #[] #[]] 119)).drewN nq):=⟨_,rfl⟩
 have h:Below w.heap.size w a:=by rw[c];exact below_drewN ((zb _ _).alloc (by simp) _) nq
 have s:a.cell? ⟨b,i,none⟩=some (.int .u8 (l[i].toNat:Int)):=(h.cell (p:=⟨b,i,none⟩) j).trans f
 have t:a.cell? ⟨w.heap.size+1,0,none⟩=some (.func (.func 100) #[] #[]):=by rw[c];simp[go_sem]
 rw[<-c]
 clear c f
 go_quiet ((go_at_call 100;exact Calls.quiet_of_same (digit_is m)))
 have g:Below w.heap.size w (a.drewN nq):=below_drewN h _
 go_wp2_with fail
 refine(past_digit (n.out.below g j) i (by omega) r).mono ?_
 rintro e x⟨rfl,rfl⟩
 go_wp2_with fail
 go_ret2
 exact⟨rfl,g⟩
theorem cut_mark {w:World}{b cap:Nat}{l:List UInt8}(B:TxAt w b l)(F:b<w.heap.size)(A:Mk w)(i:Nat)(hi:i<l.length)(hl:l.length<=100000)(hc:l.length<=cap)(J:Tp.letter l[i]=false)(hd:Tp.digit l[i]=false) :
  Calls Tryz.prog 59 #[.slice (some ⟨b,0,none⟩) l.length cap,.int .i64 (i:Int)] w fun e w'=>Below w.heap.size w w'/\CutPost w l i e w':=by
 have C:=B i l[i] (List.getElem?_eq_getElem hi)
 have a3:(i:Int)<(l.length:Int):=by omega
 have HT:Hid (TxAt w b l):=B
 have HW:Hid (Tp.letter l[i]=false):=J
 have Z:Hid (Tp.digit l[i]=false):=hd
 clear B J hd
 go_enter Tryz.func59,Tryz.ntmps59
 go_wp2_with fail
 go_quiet ((go_at_call 99;exact Calls.quiet_of_same (jG HW)))
 go_wp2_with fail
 obtain⟨g,o⟩:∃g,g=(((w.alloc (.cells #[.func (.func 99) #[] #[]] 119)).alloc (.cells #[.func (.func 100) #[] #[]] 119)).drewN nq):=⟨_,rfl⟩
 have y:Below w.heap.size w g:=by rw[o];exact below_drewN ((zb _ _).alloc (by simp) _) nq
 have K:g.cell? ⟨b,i,none⟩=some (.int .u8 (l[i].toNat:Int)):=(y.cell (p:=⟨b,i,none⟩) F).trans C
 have N:g.cell? ⟨w.heap.size+1,0,none⟩=some (.func (.func 100) #[] #[]):=by rw[o];simp[go_sem]
 rw[<-o]
 clear o C
 go_quiet ((go_at_call 100;exact Calls.quiet_of_same (digit_is Z)))
 obtain⟨a,u⟩:∃a,a=g.drewN nq:=⟨_,rfl⟩
 have d:Below w.heap.size w a:=by rw[u];exact below_drewN y _
 rw[<-u]
 have V:=A.below d A.1
 have R:Hid (TxAt a b l):=HT.out.below d F
 clear u K N y A
 go_wp2_with (refine yZ rfl 174 (.global 1) rfl mkAgg (mk_load V) ?_)
 obtain⟨P,I⟩:∃P,P=(fun m:List UInt8=>m.isPrefixOf (l.drop i)):=⟨_,rfl⟩
 have j:Hid (P=(fun m:List UInt8=>m.isPrefixOf (l.drop i))):=I
 clear I
 go_loop [32] (fun v=>∃k:Nat,k<=18/\v=.int .i64 (k:Int)/\(Tp.marks.drop k).find? P=Tp.marks.find? P) (fun v=>18-(intOf v).toNat)
 case atStart=>exact⟨0,by omega,rfl,rfl⟩
 case round =>
  obtain⟨k,hk,rfl,E⟩:=hrel
  have s:Hid ((Tp.marks.drop k).find? P=Tp.marks.find? P):=E
  clear E
  by_cases z:k<18
  ·have U:=mk_idx a k z
   have D:=M_len k z
   have n:Hid (Tp.marks.drop k=M k :: Tp.marks.drop (k+1)):=mark_drop k z
   have W:(bs (M k)).size=(M k).length:=by simp[bs,ByteArray.size]
   have X:=zj (M k)
   generalize M k=m at U D n W X
   obtain⟨a0,a1⟩:=D
   by_cases O:i+m.length<=l.length
   ·have r:((l.drop i).take m.length).length=m.length:=by simp;omega
    have T:∀c,(convert 81 9 (.slice (some ⟨b,i,none⟩) m.length c)).run Tryz.prog a=.ok (.string (bs ((l.drop i).take m.length))) a:=by
     intro c
     have q:=conv_at (cap:=c) (m:=(l.drop i).take m.length) R.out (by rw[r])
     rw[r]at q
     exact q
    have Y:=zj ((l.drop i).take m.length)
    have t:=prefix_iff m l i O
    have L:(i:Int)+(m.length:Int)<=(l.length:Int):=by omega
    have a2:(i:Int)<(cap:Int):=by omega
    generalize (l.drop i).take m.length=x at T Y t r
    have H:Hid (m.isPrefixOf (l.drop i)=decide (x=m)):=t
    clear t r
    by_cases f:x=m
    ·have Q:(x==m)=true:=by simp[f]
     have h:Hid (Tp.marks.find? P=some m):=by
      unfold Hid;rw[<-s.out,n.out,j.out,List.find?_cons,H.out,decide_eq_true f]
     clear f
     go_wp2_with fail
     go_ret2
     refine⟨d,?_⟩
     unfold CutPost
     rw[<-j.out,h.out]
     simp
    ·have Q:(x==m)=false:=by simp[f]
     have h:Hid ((Tp.marks.drop (k+1)).find? P=Tp.marks.find? P):=by
      unfold Hid;rw[<-s.out,n.out,j.out,List.find?_cons,H.out,decide_eq_false f]
     clear f
     go_wp2_with fail
     go_round
     case rel=>exact⟨k+1,by omega,by go_num,h.out⟩
     case measure=>simp[intOf];omega
   ·have L:(l.length:Int)<(i:Int)+(m.length:Int):=by omega
    have h:Hid ((Tp.marks.drop (k+1)).find? P=Tp.marks.find? P):=by
     unfold Hid;rw[<-s.out,n.out,j.out,List.find?_cons,uM m l i (by omega) (by omega)]
    go_wp2_with fail
    go_round
    case rel=>exact⟨k+1,by omega,by go_num,h.out⟩
    case measure=>simp[intOf];omega
  ·have HK:Hid (k=18):=by unfold Hid;omega
   go_wp2_with fail
   refine(jw 3 i a).mono ?_
   rintro e w2⟨G,S⟩
   obtain⟨ab,q1,rfl,q2,q3⟩:=G.out
   go_wp2_with fail
   refine⟨rfl,d.trans (S.mono d.size),?_⟩
   unfold CutPost
   rw[<-j.out,<-s.out,HK.out]
   exact G.mono d.size
theorem qr {l:List UInt8}{i n:Nat}(h:Tp.cut l=some (i,n)):1<=n/\n<=l.length:=by
 cases l with
 |nil=>cases h
 |cons c t =>
  unfold Tp.cut at h
  by_cases a:Tp.letter c
  ·simp only[a,if_true,Option.some.injEq,Prod.mk.injEq]at h
   have:=(List.takeWhile_prefix Tp.ld (l:=c :: t)).length_le
   rw[List.takeWhile_cons,if_pos (by simp[Tp.ld,a])]at h this
   simp at h this
   simp;omega
  ·by_cases b:Tp.digit c
   ·simp only[a,b,if_true,Bool.false_eq_true,if_false,Option.some.injEq,Prod.mk.injEq]at h
    have:=(List.takeWhile_prefix Tp.digit (l:=c :: t)).length_le
    rw[List.takeWhile_cons,if_pos b]at h this
    simp at h this
    simp;omega
   ·simp only[a,b,Bool.false_eq_true,if_false]at h
    rw[Option.map_eq_some_iff]at h
    obtain⟨m,d,e⟩:=h
    have f:=List.find?_some d
    have j:=(List.isPrefixOf_iff_prefix.1 f).length_le
    have g:∀m,m∈Tp.marks->1<=m.length:=by decide
    have:=g m (List.mem_of_find?_eq_some d)
    simp only[Prod.mk.injEq]at e
    omega
def SC (cnt pos:Nat) (l:List UInt8):Except Tp.Er (List Tok):=Tp.scan (l.length+1) cnt pos l
theorem scan_fuel:∀(n:Nat) (l:List UInt8) (f a pos:Nat),l.length<=n->l.length<f->Tp.scan f a pos l=SC a pos l:=by
 intro n
 induction n with
 |zero =>
  intro l f a pos b d
  have:l=[]:=List.eq_nil_of_length_eq_zero (by omega)
  subst this
  cases f with
  |zero=>omega
  |succ f=>rfl
 |succ n ih =>
  intro l f a pos b d
  cases f with
  |zero=>omega
  |succ f =>
   cases l with
   |nil=>rfl
   |cons c t =>
    simp at b d
    unfold SC
    rw[Tp.scan,Tp.scan]
    by_cases g:Tp.blank c
    ·simp only[g,if_true]
     rw[ih t f _ _ (by omega) (by omega),ih t (c :: t).length _ _ (by omega) (by simp)]
    ·simp only[g,Bool.false_eq_true,if_false]
     cases h:Tp.cut (c :: t) with
     |none=>rfl
     |some v =>
      obtain⟨m,k⟩:=v
      have j:=qr h
      simp at j
      simp only
      by_cases e:a=600
      ·simp only[e,if_true]
      ·simp only[e,if_false]
       have i:((c :: t).drop k).length<=t.length:=by simp;omega
       rw[ih ((c :: t).drop k) f _ _ (by omega) (by omega),ih ((c :: t).drop k) (c :: t).length _ _ (by omega) (by simp at i ⊢;omega)]
def consT (t:Tok):Except Tp.Er (List Tok)->Except Tp.Er (List Tok)
 | .error e=>.error e
 | .ok l=>.ok (t :: l)
def addT (a:List Tok):Except Tp.Er (List Tok)->Except Tp.Er (List Tok)
 | .error e=>.error e
 | .ok l=>.ok (a++l)
theorem SC_nil (a pos:Nat):SC a pos []=.ok [⟨0,pos,[]⟩]:=rfl
theorem SC_blank {a pos:Nat}{c:UInt8}{t:List UInt8}(h:Tp.blank c=true):SC a pos (c :: t)=SC a (pos+1) t:=by
 unfold SC
 rw[List.length_cons,Tp.scan]
 simp only[h,if_true]
theorem SC_none {a pos:Nat}{c:UInt8}{t:List UInt8}(h:Tp.blank c=false)(b:Tp.cut (c :: t)=none):SC a pos (c :: t)=.error (3,pos):=by
 unfold SC
 rw[List.length_cons,Tp.scan]
 simp only[h,Bool.false_eq_true,if_false,b]
theorem SC_full {pos b n:Nat}{c:UInt8}{t:List UInt8}(h:Tp.blank c=false)(a:Tp.cut (c :: t)=some (b,n)):SC 600 pos (c :: t)=.error (4,pos):=by
 unfold SC
 rw[List.length_cons,Tp.scan]
 simp only[h,Bool.false_eq_true,if_false,a,if_true]
theorem SC_tok {a pos d n:Nat}{c:UInt8}{t:List UInt8}(h:Tp.blank c=false)(b:Tp.cut (c :: t)=some (d,n))(e:a≠600):SC a pos (c :: t)=consT ⟨d,pos,(c :: t).take n⟩ (SC (a+1) (pos+n) ((c :: t).drop n)):=by
 have f:=qr b
 simp at f
 conv=>lhs;unfold SC
 rw[List.length_cons,Tp.scan]
 simp only[h,Bool.false_eq_true,if_false,b,e]
 rw[scan_fuel ((c :: t).drop n).length _ _ _ _ zn (by simp;omega)]
 cases SC (a+1) (pos+n) ((c :: t).drop n)<;>rfl
theorem SC_past {c:Nat}{l:List UInt8}:∀(n i:Nat),l.length-i<=n->i<=l.length->SC c (pastI Tp.blank l i) (l.drop (pastI Tp.blank l i))=SC c i (l.drop i):=by
 intro n
 induction n with
 |zero =>
  intro i d e
  rw[yz (by omega)]
 |succ n ih =>
  intro i d e
  by_cases a:i<l.length
  ·cases b:Tp.blank l[i]
   ·rw[kK a b]
   ·rw[<-yL a b,ih (i+1) (by omega) (by omega),List.drop_eq_getElem_cons a,SC_blank b]
  ·rw[yz a]
def tcells (t:Tok):List Value:=[.int .i64 (t.kind:Int),.int .i64 (t.pos:Int),.string (bs t.text)]
def tksC (l:List Tok):List Value:=(l.map tcells).flatten
theorem Tryz.infoToken:(Tryz.prog.info? 125).map (fun i=>(i.zero,i.size,i.bytes))=some (some (.agg #[.int .i64 0,.int .i64 0,.string ⟨#[]⟩]),3,32):=by kernel_rfl
theorem addT_consT (a:List Tok)(t:Tok)(x:Except Tp.Er (List Tok)):addT a (consT t x)=addT (a++[t]) x:=by
 cases x with
 |error e=>rfl
 |ok v=>simp[addT,consT]
theorem cut_at (l:List UInt8)(i:Nat)(h:i<l.length):Tp.cut (l.drop i)=if Tp.letter l[i] then some (1,pastI Tp.ld l i-i) else if Tp.digit l[i] then some (2,pastI Tp.digit l i-i) else (Tp.marks.find? (fun m=>m.isPrefixOf (l.drop i))).map (fun m=>(3,m.length)):=by
 unfold pastI
 rw[List.drop_eq_getElem_cons h]
 unfold Tp.cut
 simp only[Nat.add_sub_cancel_left]
def CutP (w:World) (l:List UInt8) (i:Nat) (e:Ending) (w':World):Prop :=
 match Tp.cut (l.drop i) with
 |some (kd,n)=>e=.returned (.tuple #[.int .i64 (kd:Int),.int .i64 ((i+n:Nat):Int)])
 |none=>Thrown w.heap.size (3,i) e w'
theorem cut_post {w:World}{j cap:Nat}{l:List UInt8}(g:TxAt w j l)(c:j<w.heap.size)(n:Mk w)(i:Nat)(b:i<l.length)(d:l.length<=100000)(p:l.length<=cap) :
  Calls Tryz.prog 59 #[.slice (some ⟨j,0,none⟩) l.length cap,.int .i64 (i:Int)] w fun e w'=>Below w.heap.size w w'/\CutP w l i e w':=by
 unfold CutP
 rw[cut_at l i b]
 cases h:Tp.letter l[i]
 ·cases hd:Tp.digit l[i]
  ·refine(cut_mark g c n i b d p h hd).mono ?_
   rintro e w'⟨o,a⟩
   refine⟨o,?_⟩
   unfold CutPost at a
   simp only[Bool.false_eq_true,if_false]
   cases k:Tp.marks.find? (fun m=>m.isPrefixOf (l.drop i)) with
   |none=>rw[k]at a;exact a
   |some m=>rw[k]at a;exact a
  ·refine(cut_num g c i b d h hd).mono ?_
   rintro e w'⟨rfl,a⟩
   have:=js (f:=Tp.digit) (l:=l) (i:=i) (by omega)
   refine⟨a,?_⟩
   simp only[Bool.false_eq_true,if_false,if_true]
   rw[show i+(pastI Tp.digit l i-i)=pastI Tp.digit l i by omega]
   rfl
 ·refine(cut_word g c i b d h).mono ?_
  rintro e w'⟨rfl,a⟩
  have:=js (f:=Tp.ld) (l:=l) (i:=i) (by omega)
  refine⟨a,?_⟩
  simp only[if_true]
  rw[show i+(pastI Tp.ld l i-i)=pastI Tp.ld l i by omega]
  rfl
theorem cut_some {w:World}{b cap:Nat}{l:List UInt8}(o:TxAt w b l)(f:b<w.heap.size)(d:Mk w)(i:Nat)(j:i<l.length)(k:l.length<=100000)(h:l.length<=cap){c n:Nat}(m:Hid (Tp.cut (l.drop i)=some (c,n))) :
  Calls Tryz.prog 59 #[.slice (some ⟨b,0,none⟩) l.length cap,.int .i64 (i:Int)] w fun e w'=>e=.returned (.tuple #[.int .i64 (c:Int),.int .i64 ((i+n:Nat):Int)])/\Below w.heap.size w w':=by
 refine(cut_post o f d i j k h).mono ?_
 rintro e w'⟨g,a⟩
 unfold CutP at a
 rw[m.out]at a
 exact⟨a,g⟩
theorem cut_none {w:World}{b cap:Nat}{l:List UInt8}(m:TxAt w b l)(d:b<w.heap.size)(c:Mk w)(i:Nat)(h:i<l.length)(j:l.length<=100000)(g:l.length<=cap)(k:Hid (Tp.cut (l.drop i)=none)) :
  Calls Tryz.prog 59 #[.slice (some ⟨b,0,none⟩) l.length cap,.int .i64 (i:Int)] w fun e w'=>Thrown w.heap.size (3,i) e w'/\Below w.heap.size w w':=by
 refine(cut_post m d c i h j g).mono ?_
 rintro e w'⟨f,a⟩
 unfold CutP at a
 rw[k.out]at a
 exact⟨a,f⟩
theorem xr {f:UInt8->Bool}{l:List UInt8}:∀(n i:Nat),l.length-i<=n->(h:pastI f l i<l.length)->f l[pastI f l i]=false:=by
 intro n
 induction n with
 |zero =>
  intro i c h
  have:¬i<l.length:=by omega
  rw[yz this]at h
  exact absurd h this
 |succ n ih =>
  intro i c h
  by_cases a:i<l.length
  ·cases b:f l[i]
   ·have e:=kK a b
    simp only[e,b]
   ·have e:=yL a b
    have:=ih (i+1) (by omega) (by rw[e];exact h)
    simp only[e]at this
    exact this
  ·rw[yz a]at h
   exact absurd h a
theorem TxAt.ofBytes (w:World)(e:TypeId)(l:List UInt8):TxAt (Lib.bytesWorld w e (bs l)) w.heap.size l:=by
 intro j c a
 have b:j<l.length:=by rw[List.getElem?_eq_some_iff]at a;exact a.1
 rw[Lib.bytesWorld_cell w e (bs l) j (by simpa[bs,ByteArray.size] using b)]
 simp[bs,List.getD_eq_getElem?_getD,a]
theorem qA (w:World)(e:TypeId)(s:ByteArray):Below w.heap.size w (Lib.bytesWorld w e s) :=
 ⟨by simp only[Lib.bytesWorld,World.freeze];repeat (first|rfl|split),by simp only[Lib.bytesWorld,World.freeze];repeat (first|rfl|split),by simp only[Lib.bytesWorld,World.freeze];repeat (first|rfl|split),by rw[Lib.bytesWorld_size];omega,fun k a=>Lib.bytesWorld_at_old w e s k a⟩
def ScanP (w:World) (l:List UInt8) (e:Ending) (w':World):Prop :=
 match SC 0 0 l with
 | .ok ts=>∃v,e=.returned v/\w'.ownsRow w.heap.size 125 3 v ts.length (tksC ts)
 | .error er=>Thrown w.heap.size er e w'
theorem news3 (w:World)(a b c:Value)(t:TypeId):∀j u,[a,b,c][j]?=some u->(w.alloc (.cells #[a,b,c] t)).cell? ((⟨w.heap.size,0,none⟩:Addr).add j)=some u:=by
 intro j u d
 rw[Addr.add_lit,za (zo _ _),Nat.zero_add]
 simpa using d
theorem xu {w w':World}{c e size n:Nat}{v:Value}{d:List Value}(h:w.ownsRow c e size v n d)(k:Below w.heap.size w w'):w'.ownsRow c e size v n d:=by
 refine⟨h.1,?_⟩
 rcases h.2 with a|⟨g,cap,f,a,i,b,j⟩
 ·exact Or.inl a
 ·refine Or.inr ⟨g,cap,f,a,i,?_,j⟩
  have l:g<w.heap.size:=by rw[Array.getElem?_eq_some_iff]at b;exact b.1
  rw[k.block g l];exact b
theorem vr (l:List Tok)(t:Tok):tksC (l++[t])=tksC l++tcells t:=by simp[tksC]
theorem scan_post (w:World)(l:List UInt8)(N:l.length<=100000)(T:Mk w) :
  Calls Tryz.prog 30 #[.string (bs l)] w fun e w'=>Below w.heap.size w w'/\ScanP w l e w':=by
 obtain⟨i0,a6,a8,a9,b0⟩:=info_parts Tryz.infoToken
 have y:=Lib.run_convert_string_bytes (P:=Tryz.prog) w 9 81 5 (bs l) Tryz.underlying9 Tryz.underlying81 Tryz.underlying5
 have b2:(bs l).size=l.length:=by simp[bs,ByteArray.size]
 have I:=grownCap_ge w (bs l).size 0 5
 have M:=TxAt.ofBytes w 5 l
 have L:=qA w 5 (bs l)
 have a3:=Lib.bytesWorld_size w 5 (bs l)
 rw[b2]at y I
 generalize grownCap w l.length 0 5=cap at y I
 generalize Lib.bytesWorld w 5 (bs l)=W0 at y M L a3
 go_enter Tryz.func30,Tryz.ntmps30
 go_wp2_with fail
 refine(xq M 0 (by omega) N).mono ?_
 rintro e b⟨rfl,rfl⟩
 have a1:=T.below L T.1
 have b4:=js (f:=Tp.blank) (l:=l) (i:=0) (by omega)
 have HT:Hid (TxAt b w.heap.size l):=M
 have V:Hid (Below w.heap.size w b):=L
 have HM:Hid (Mk b):=a1
 have b9:w.heap.size<b.heap.size:=by omega
 clear M L a1 y T a3
 go_wp2_with fail
 go_loopg [5,6] (l.length+1) (fun k v vi wr=>∃(a:List Tok) (i:Nat),vi=.int .i64 (i:Int)/\i<=l.length/\l.length-i<k/\a.length<=600/\wr.ownsRow b.heap.size 125 3 v a.length (tksC a)/\Below b.heap.size b wr/\addT a (SC a.length i (l.drop i))=SC 0 0 l/\(∀h:i<l.length,Tp.blank l[i]=false))
 case atStart =>
  refine⟨[],pastI Tp.blank l 0,rfl,b4.2,by omega,by simp,World.ownsRow_nil _ _ _ _,Below.refl _ _,?_,fun h=>xr l.length 0 (by omega) h⟩
  rw[List.length_nil,SC_past l.length 0 (by omega) (by omega),List.drop_zero]
  cases SC 0 0 l<;>rfl
 case round =>
  obtain⟨a,i,rfl,c9,c8,c0,t,p,a0,a7⟩:=hrel
  have K:Hid (addT a (SC a.length i (l.drop i))=SC 0 0 l):=a0
  have Q:Hid (∀h:i<l.length,Tp.blank l[i]=false):=a7
  obtain⟨ao,cp,b7⟩:=zw t
  subst b7
  have J:=p.size
  clear a0 a7
  by_cases d:i<l.length
  ·have b1:(i:Int)<(l.length:Int):=by omega
   have H:=HT.out.below p (by omega)
   have S:=HM.out.below p HM.out.1
   have b3:Hid (TxAt wr w.heap.size l):=H
   generalize F:Tp.cut (l.drop i)=c
   cases c with
   |none =>
    have z:Hid (Tp.cut (l.drop i)=none):=F
    clear F
    go_wp2_with fail
    refine(cut_none H (by omega) S i d N I z).mono ?_
    rintro e w2⟨s,j⟩
    obtain⟨ab,X,rfl,Y,Z⟩:=s.out
    have R:Hid (Thrown wr.heap.size (3,i) _ w2):=s
    have D:Hid (Below w.heap.size w w2):=V.out.trans ((p.trans (j.mono J)).mono (by omega))
    clear s X Y Z
    go_wp2_with fail
    refine⟨rfl,D.out,?_⟩
    have o:=z.out
    have E:=Q.out d
    unfold ScanP
    rw[List.drop_eq_getElem_cons d]at o
    rw[<-K.out,List.drop_eq_getElem_cons d,SC_none E o]
    exact R.out.mono (by omega)
   |some kn =>
    obtain⟨G,n⟩:=kn
    have z:Hid (Tp.cut (l.drop i)=some (G,n)):=F
    have hn:=qr F
    clear F
    simp only[List.length_drop]at hn
    go_wp2_with fail
    refine(cut_some H (by omega) S i d N I z).mono ?_
    rintro e w2⟨rfl,j⟩
    have a4:=b3.out.below j (by omega)
    have O:=xu t j
    have U:((l.drop i).take n).length=n:=by simp;omega
    have y:∀c,(convert 81 9 (.slice (some ⟨w.heap.size,i,none⟩) n c)).run Tryz.prog w2=.ok (.string (bs ((l.drop i).take n))) w2:=by
     intro c
     have q:=conv_at (cap:=c) (m:=(l.drop i).take n) a4 (by rw[U])
     rw[U]at q
     exact q
    clear H S t a4
    by_cases h6:a.length=600
    ·have a2:(a.length:Int)=600:=by omega
     clear h6
     go_wp2_with fail
     refine(jw 4 i w2).mono ?_
     rintro e g⟨s,r⟩
     obtain⟨ab,X,rfl,Y,Z⟩:=s.out
     have R:Hid (Thrown w2.heap.size (4,i) _ g):=s
     have b6:=j.size
     have D:Hid (Below w.heap.size w g):=V.out.trans (((p.trans (j.mono J)).trans (r.mono (by omega))).mono (by omega))
     clear s X Y Z
     go_wp2_with fail
     refine⟨rfl,D.out,?_⟩
     have o:=z.out
     have E:=Q.out d
     unfold ScanP
     rw[List.drop_eq_getElem_cons d]at o
     rw[<-K.out,List.drop_eq_getElem_cons d,show a.length=600 by omega,SC_full E o]
     exact R.out.mono (by omega)
    ·have a2:¬(a.length:Int)=600:=by omega
     have b8:((a.length:Int)==600)=false:=by simpa using a2
     generalize hx:(l.drop i).take n=x at y U
     have c6:(i:Int)<(cap:Int):=by omega
     have c7:(i:Int)+(n:Int)<=(cap:Int):=by omega
     have b6:=j.size
     go_wp2_with (at_builtin;refine wpList_append_own _ rfl _ _ 74 rfl b.heap.size 125 i0 (.agg #[.int .i64 0,.int .i64 0,.string ⟨#[]⟩]) 3 32 Tryz.underlying74 a6 a8 a9 b0 rfl (by decide) _ _ _ rfl (O.alloc _) ⟨w2.heap.size,0,none⟩ 1 1 [.int .i64 (G:Int),.int .i64 (i:Int),.string (bs x)] rfl rfl ?c1 ?c2 ?c3 ?c4 ?c5 ?_)
     case c1=>exact news3 _ _ _ _ _
     case c2=>intro u hu;simp at hu;rcases hu with rfl|rfl|rfl<;>rfl
     case c3=>unfold maxLen;omega
     case c4=>omega
     case c5=>simp;omega
     ·intro v' g B A _
      have r:Below b.heap.size w2 g:=((Below.refl _ _).alloc (by omega) _).trans ((Below.refl _ _).grown A (by simp;omega) (zU O))
      have C:Below b.heap.size b g:=(p.trans (j.mono J)).trans r
      have W:Hid (g.ownsRow b.heap.size 125 3 v' (a++[(⟨G,i,x⟩:Tok)]).length (tksC (a++[(⟨G,i,x⟩:Tok)]))):=by unfold Hid;rw[vr];simpa[tcells] using B
      clear A O B r
      have a5:=HT.out.below C (by omega)
      go_wp2_with fail
      refine(xq a5 (i+n) (by omega) N).mono ?_
      rintro e w4⟨rfl,rfl⟩
      have b5:=js (f:=Tp.blank) (l:=l) (i:=i+n) (by omega)
      clear a5
      go_wp2_with fail
      go_roundg (gk-1)
      case measure=>omega
      case rel =>
       refine⟨a++[⟨G,i,x⟩],pastI Tp.blank l (i+n),rfl,b5.2,by omega,by simp;omega,W.out,C,?_,fun h=>xr l.length (i+n) (by omega) h⟩
       have o:=z.out
       have E:=Q.out d
       rw[<-K.out,SC_past l.length (i+n) (by omega) (by omega)]
       rw[List.drop_eq_getElem_cons d]at o ⊢
       rw[SC_tok E o h6,addT_consT,<-List.drop_eq_getElem_cons d,List.drop_drop,hx]
       simp
  ·have b1:¬(i:Int)<(l.length:Int):=by omega
   go_wp2_with (at_builtin;refine wpList_append_own _ rfl _ _ 74 rfl b.heap.size 125 i0 (.agg #[.int .i64 0,.int .i64 0,.string ⟨#[]⟩]) 3 32 Tryz.underlying74 a6 a8 a9 b0 rfl (by decide) _ _ _ rfl (t.alloc _) ⟨wr.heap.size,0,none⟩ 1 1 [.int .i64 0,.int .i64 (l.length:Int),.string ⟨#[]⟩] rfl rfl ?c1 ?c2 ?c3 ?c4 ?c5 ?_)
   case c2=>exact⟨rfl,rfl,rfl⟩
   case c3=>unfold maxLen;omega
   case c4=>omega
   case c5=>omega
   ·intro v' g B A _
    have r:Below b.heap.size wr g:=((Below.refl _ _).alloc J _).trans ((Below.refl _ _).grown A (by simp;omega) (zU t))
    have C:Below b.heap.size b g:=p.trans r
    have W:Hid (g.ownsRow b.heap.size 125 3 v' (a++[(⟨0,l.length,[]⟩:Tok)]).length (tksC (a++[(⟨0,l.length,[]⟩:Tok)]))):=by unfold Hid;rw[vr];simpa[tcells,bs] using B
    have D:Hid (Below w.heap.size w g):=V.out.trans (C.mono (by omega))
    clear A t B r C
    go_wp2_with fail
    go_ret
    refine⟨D.out,?_⟩
    have e0:i=l.length:=by omega
    unfold ScanP
    rw[<-K.out,e0,List.drop_length,SC_nil]
    exact⟨_,rfl,yE W.out (by omega)⟩
end Go.Proofs.YtibncofnnlbmcaaGreatDoor
namespace Go.Proofs.YtibncofnnlbmcaaGreatDoor
open Go.RowKit
open Tp (Tok hd tx at' stp X S G Pr)
theorem caught_at (a:Option Addr)(w:World) :
  Calls Tryz.prog 29 #[.iface 117 (.pointer a)] w fun e w'=>e=.returned (.iface 117 (.pointer a))/\w'=w:=by
 have b:∀(a:Option Addr) (w:World),(Instr.typeAssert (.iface 117 (.pointer a)) 20 117 true).run Tryz.prog w=.ok (.tuple #[.pointer a,.bool true]) w:=fun a w=>by kernel_rfl
 go_enter Tryz.func29,Tryz.ntmps29
 go_wp2
 go_ret
 exact⟨rfl,rfl⟩
def m0:Array Value:=#[.string ⟨#[]⟩,.slice none 0 0,.slice none 0 0,.slice none 0 0,.slice none 0 0]
theorem kj (a eb b:Nat)(older:List PanicEntry)(w:World)(c:∀i,i<5->(w.cell? ⟨a,i,none⟩).isSome=true)(y:∀i,w.frozen? ⟨a,i,none⟩=false)(k:(w.cell? ⟨eb,0,none⟩).isSome=true)(z:w.frozen? ⟨eb,0,none⟩=false)(l:a≠eb) :
  CallsD Tryz.prog 28 #[.pointer (some ⟨a,0,none⟩),.pointer (some ⟨eb,0,none⟩)] (.panicking ({ v:=.iface 117 (.pointer (some ⟨b,0,none⟩)),recovered:=false } :: older)) w fun e p w' =>
   e=.returned (.tuple #[])/\p=.panicking ({ v:=.iface 117 (.pointer (some ⟨b,0,none⟩)),recovered:=true } :: older)/\w'=(((((w.setCell ⟨a,0,none⟩ (.string ⟨#[]⟩)).setCell ⟨a,1,none⟩ (.slice none 0 0)).setCell ⟨a,2,none⟩ (.slice none 0 0)).setCell ⟨a,3,none⟩ (.slice none 0 0)).setCell ⟨a,4,none⟩ (.slice none 0 0)).setCell ⟨eb,0,none⟩ (.iface 117 (.pointer (some ⟨b,0,none⟩))):=by
 refine callsD_of_wpS Tryz.func28 rfl fun r cs o=>?_
 apply wpS_seq
 apply wpS_region
 simp[wpOpsS,go_sem,recoverD,o,Tryz.ntmps28,Exit.thenS]
 refine wpS_of_wp ?_
 have d:=c 0 (by omega)
 have f:=c 1 (by omega)
 have g:=c 2 (by omega)
 have h:=c 3 (by omega)
 have j:=c 4 (by omega)
 rw[Option.isSome_iff_exists]at d f g h j k
 obtain⟨t,d⟩:=d
 obtain⟨x1,f⟩:=f
 obtain⟨x2,g⟩:=g
 obtain⟨x3,h⟩:=h
 obtain⟨u,j⟩:=j
 obtain⟨x,s⟩:=k
 have q:eb≠a:=fun e=>l e.symm
 generalize n:(fun (e:Exit) (m:Act) (w':World)=>bodyPostS Tryz.prog _ _ _ _ e m _ w')=Q
 show Code.wp Tryz.prog _ _ { tmps:=#[.pointer (some ⟨a,0,none⟩),.pointer (some ⟨eb,0,none⟩),.iface 117 (.pointer (some ⟨b,0,none⟩)),.iface 117 (.pointer (some ⟨b,0,none⟩)),undef,undef,undef,undef,undef],defers:=[] } w
 go_wp2_with fail
 refine(caught_at _ w).mono ?_
 rintro e w'⟨rfl,rfl⟩
 go_wp2_with fail
 subst n
 simp[bodyPostS,results,Tryz.results28]
theorem late_idle (m e:Addr)(w:World) :
  CallsD Tryz.prog 28 #[.pointer (some m),.pointer (some e)] .returning w fun e f w'=>e=.returned (.tuple #[])/\f=.returning/\w'=w:=by
 refine callsD_of_wpS Tryz.func28 rfl fun b cs d=>?_
 apply wpS_seq
 apply wpS_region
 simp[wpOpsS,go_sem,recoverD,d,Tryz.ntmps28,Exit.thenS]
 refine wpS_of_wp ?_
 generalize c:(fun (e:Exit) (a:Act) (w':World)=>bodyPostS Tryz.prog _ _ _ _ e a _ w')=Q
 show Code.wp Tryz.prog _ _ { tmps:=#[.pointer (some m),.pointer (some e),.nilIface,.nilIface,undef,undef,undef,undef,undef],defers:=[] } w
 go_wp2_with fail
 subst c
 cases b
 simp_all [bodyPostS,results,Tryz.results28]
end Go.Proofs.YtibncofnnlbmcaaGreatDoor
