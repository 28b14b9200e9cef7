import Derived.Test.YtbkndnmglhghlaaGreatDoorKWf
import Derived.Test.YtbkndnmglhghlaaGreatDoorKPb
import Derived.Laws.EntriesVeiled
import Derived.Lib.ConvBytes
set_option maxRecDepth 100000
set_option maxHeartbeats 4000000

namespace Go.Proofs.YtbkndnmglhghlaaGreatDoor
open Go.RowKit
open Tp (Tok hd tx at' stp)
variable {l t:List UInt8}{B a b cap i n pos:Nat}{c:UInt8}{w w':World}
def mks:List Value:=[.string ⟨#[58,61]⟩,.string ⟨#[60,61]⟩,.string ⟨#[62,61]⟩,.string ⟨#[35]⟩,.string ⟨#[61]⟩,.string ⟨#[60]⟩,.string ⟨#[62]⟩,.string ⟨#[43]⟩,.string ⟨#[45]⟩,.string ⟨#[42]⟩,.string ⟨#[40]⟩,.string ⟨#[41]⟩,.string ⟨#[91]⟩,.string ⟨#[93]⟩,.string ⟨#[44]⟩,.string ⟨#[59]⟩,.string ⟨#[58]⟩,.string ⟨#[46]⟩]
def Mk (w:World):Prop:=1<w.heap.size/\∀i,i<18->w.cell? ⟨1,i,none⟩=some (mks.getD i undef)
theorem Mk.below (h:Mk w)(k:Below B w w')(a:1<B):Mk w' :=
 ⟨Nat.lt_of_lt_of_le h.1 k.size,fun i b=>(k.cell (p:=⟨1,i,none⟩) a).trans (h.2 i b)⟩
def mkAgg:Value:=.agg mks.toArray
theorem mk_load (h:Mk w):(Instr.loadAt 209 (.pointer (some ⟨1,0,none⟩))).run Tryz.prog w=.ok mkAgg w:=by
 have d:=ji (P:=Tryz.prog) (w:=w) ⟨1,0,none⟩ mks 18 0 #[] (fun j _ f=>by have e:=h.2 j (by omega);by_cases a:j=0<;>simpa[Addr.add,a] using e) (by decide)
 have b:(isAgg 209).run Tryz.prog w=.ok true w:=by kernel_rfl
 have c:(sizeOf 209).run Tryz.prog w=.ok 18 w:=by kernel_rfl
 simp only[Instr.loadAt,Instr.sureAddr,loadVar,loadCells,Sem.run_bind,Result.andThen]
 simp[b,c,d,mkAgg,mks]
theorem mk_idx0 (w:World):(Instr.index 209 mkAgg (.int .i64 0)).run Tryz.prog w=.ok (.string ⟨#[58,61]⟩) w:=by kernel_rfl
theorem mk_idx1 (w:World):(Instr.index 209 mkAgg (.int .i64 1)).run Tryz.prog w=.ok (.string ⟨#[60,61]⟩) w:=by kernel_rfl
theorem mk_idx2 (w:World):(Instr.index 209 mkAgg (.int .i64 2)).run Tryz.prog w=.ok (.string ⟨#[62,61]⟩) w:=by kernel_rfl
theorem mk_idx3 (w:World):(Instr.index 209 mkAgg (.int .i64 3)).run Tryz.prog w=.ok (.string ⟨#[35]⟩) w:=by kernel_rfl
theorem mk_idx4 (w:World):(Instr.index 209 mkAgg (.int .i64 4)).run Tryz.prog w=.ok (.string ⟨#[61]⟩) w:=by kernel_rfl
theorem mk_idx5 (w:World):(Instr.index 209 mkAgg (.int .i64 5)).run Tryz.prog w=.ok (.string ⟨#[60]⟩) w:=by kernel_rfl
theorem mk_idx6 (w:World):(Instr.index 209 mkAgg (.int .i64 6)).run Tryz.prog w=.ok (.string ⟨#[62]⟩) w:=by kernel_rfl
theorem mk_idx7 (w:World):(Instr.index 209 mkAgg (.int .i64 7)).run Tryz.prog w=.ok (.string ⟨#[43]⟩) w:=by kernel_rfl
theorem mk_idx8 (w:World):(Instr.index 209 mkAgg (.int .i64 8)).run Tryz.prog w=.ok (.string ⟨#[45]⟩) w:=by kernel_rfl
theorem mk_idx9 (w:World):(Instr.index 209 mkAgg (.int .i64 9)).run Tryz.prog w=.ok (.string ⟨#[42]⟩) w:=by kernel_rfl
theorem mk_idx10 (w:World):(Instr.index 209 mkAgg (.int .i64 10)).run Tryz.prog w=.ok (.string ⟨#[40]⟩) w:=by kernel_rfl
theorem mk_idx11 (w:World):(Instr.index 209 mkAgg (.int .i64 11)).run Tryz.prog w=.ok (.string ⟨#[41]⟩) w:=by kernel_rfl
theorem mk_idx12 (w:World):(Instr.index 209 mkAgg (.int .i64 12)).run Tryz.prog w=.ok (.string ⟨#[91]⟩) w:=by kernel_rfl
theorem mk_idx13 (w:World):(Instr.index 209 mkAgg (.int .i64 13)).run Tryz.prog w=.ok (.string ⟨#[93]⟩) w:=by kernel_rfl
theorem mk_idx14 (w:World):(Instr.index 209 mkAgg (.int .i64 14)).run Tryz.prog w=.ok (.string ⟨#[44]⟩) w:=by kernel_rfl
theorem mk_idx15 (w:World):(Instr.index 209 mkAgg (.int .i64 15)).run Tryz.prog w=.ok (.string ⟨#[59]⟩) w:=by kernel_rfl
theorem mk_idx16 (w:World):(Instr.index 209 mkAgg (.int .i64 16)).run Tryz.prog w=.ok (.string ⟨#[58]⟩) w:=by kernel_rfl
theorem mk_idx17 (w:World):(Instr.index 209 mkAgg (.int .i64 17)).run Tryz.prog w=.ok (.string ⟨#[46]⟩) w:=by kernel_rfl
theorem TxAt.below (h:TxAt w a l)(k:Below B w w')(b:a<B):TxAt w' a l :=
 fun j c d=>(k.cell (p:=⟨a,j,none⟩) b).trans (h j c d)
theorem conv_at {m:List UInt8}(h:TxAt w a l)(c:(l.drop i).take m.length=m):(convert 143 9 (.slice (some ⟨a,i,none⟩) m.length cap)).run Tryz.prog w=.ok (.string (bs m)) w:=by
 refine run_convert_bytes_back w 143 9 5 ⟨a,i,none⟩ cap m Tryz.underlying143 Tryz.underlying5 Tryz.underlying9 (fun j b=>?_)
 rw[Addr.add_lit]
 refine h (i+j) _ ?_
 have e:((l.drop i).take m.length)[j]?=m[j]?:=by rw[c]
 rw[List.getElem?_take_of_lt b,List.getElem?_drop]at e
 rw[e,List.getElem?_eq_getElem b]
theorem jA {t:Bool}(h:Hid (Tp.letter c=t)):Calls Tryz.prog 127 #[.int .u8 (c.toNat:Int)] w fun e w'=>e=.returned (.bool t)/\w'=w:=by
 have:=jj w c;rw[h.out]at this;exact this
theorem digit_is {t:Bool}(h:Hid (Tp.digit c=t)):Calls Tryz.prog 128 #[.int .u8 (c.toNat:Int)] w fun e w'=>e=.returned (.bool t)/\w'=w:=by
 have:=kZ w c;rw[h.out]at this;exact this
def M (k:Nat):List UInt8:=Tp.marks.getD k []
theorem mark_drop (k:Nat)(h:k<18):Tp.marks.drop k=M k :: Tp.marks.drop (k+1):=by
 have a:k<Tp.marks.length:=h
 rw[List.drop_eq_getElem_cons a]
 simp[M,List.getD_eq_getElem?_getD,List.getElem?_eq_getElem a]
theorem ui (m l:List UInt8)(i:Nat)(h:l.length<i+m.length)(b:i<=l.length):m.isPrefixOf (l.drop i)=false:=by
 rw[Bool.eq_false_iff]
 intro a
 have:=(List.isPrefixOf_iff_prefix.1 a).length_le
 simp at this
 omega
theorem prefix_iff (m l:List UInt8)(i:Nat)(_h:i+m.length<=l.length):m.isPrefixOf (l.drop i)=decide ((l.drop i).take m.length=m):=by
 rw[Bool.eq_iff_iff,decide_eq_true_iff,List.isPrefixOf_iff_prefix]
 constructor
 ·intro a;exact(List.prefix_iff_eq_take.1 a).symm
 ·intro a;rw[<-a];exact List.take_prefix _ _
def CutPost (w:World) (l:List UInt8) (i:Nat) (e:Ending) (w':World):Prop :=
 match Tp.marks.find? (fun m=>m.isPrefixOf (l.drop i)) with
 |some m=>e=.returned (.tuple #[.int .i64 3,.int .i64 ((i+m.length:Nat):Int)])
 |none=>Thrown w.heap.size (3,i) e w'
theorem M_len (k:Nat)(h:k<18):1<=(M k).length/\(M k).length<=2:=by
 have:∀k,k<18->1<=(M k).length/\(M k).length<=2:=by decide
 exact this k h
theorem mk_idx (w:World)(k:Nat)(h:k<18):(Instr.index 209 mkAgg (.int .i64 (k:Int))).run Tryz.prog w=.ok (.string (bs (M k))) w:=by
 match k,h with
 | 0,_=>exact mk_idx0 w
 | 1,_=>exact mk_idx1 w
 | 2,_=>exact mk_idx2 w
 | 3,_=>exact mk_idx3 w
 | 4,_=>exact mk_idx4 w
 | 5,_=>exact mk_idx5 w
 | 6,_=>exact mk_idx6 w
 | 7,_=>exact mk_idx7 w
 | 8,_=>exact mk_idx8 w
 | 9,_=>exact mk_idx9 w
 | 10,_=>exact mk_idx10 w
 | 11,_=>exact mk_idx11 w
 | 12,_=>exact mk_idx12 w
 | 13,_=>exact mk_idx13 w
 | 14,_=>exact mk_idx14 w
 | 15,_=>exact mk_idx15 w
 | 16,_=>exact mk_idx16 w
 | 17,_=>exact mk_idx17 w
 |n+18,h=>omega
theorem cut_word (c:TxAt w a l)(f:a<w.heap.size)(i:Nat)(k:i<l.length)(m:l.length<=100000)(d:Tp.letter l[i]=true) :
  Calls Tryz.prog 72 #[.slice (some ⟨a,0,none⟩) l.length cap,.int .i64 (i:Int)] w fun e w'=>e=.returned (.tuple #[.int .i64 1,.int .i64 (pastI Tp.ld l i:Int)])/\Below w.heap.size w w':=by
 have p:=zm
 have n:=c i l[i] (List.getElem?_eq_getElem k)
 have o:(i:Int)<(l.length:Int):=by omega
 have h:Hid (TxAt w a l):=c
 have j:Hid (Tp.letter l[i]=true):=d
 clear c d
 go_enter Tryz.func72,Tryz.ntmps72
 go_wp2_with fail
 go_quiet ((go_at_call 127;exact Calls.quiet_of_same (jA j)))
 go_wp2_with fail
 have b:Below w.heap.size w (((w.alloc (.cells #[.func (.func 127) #[] #[]] 144)).alloc (.cells #[.func (.func 128) #[] #[]] 144)).drewN nq):=below_drewN ((zb _ _).alloc (by simp) _) nq
 refine(past_ld (h.out.below b f) i (by omega) m w.heap.size (w.heap.size+1) (by simp[go_sem]) (by simp[go_sem])).mono ?_
 rintro e q⟨rfl,rfl⟩
 have g:Hid (Below w.heap.size w (((w.alloc (.cells #[.func (.func 127) #[] #[]] 144)).alloc (.cells #[.func (.func 128) #[] #[]] 144)).drewN nq)):=b
 clear b
 go_wp2_with fail
 go_ret2
 exact⟨rfl,g.out⟩
theorem cut_num (d:TxAt w b l)(j:b<w.heap.size)(i:Nat)(q:i<l.length)(r:l.length<=100000)(k:Tp.letter l[i]=false)(hd:Tp.digit l[i]=true) :
  Calls Tryz.prog 72 #[.slice (some ⟨b,0,none⟩) l.length cap,.int .i64 (i:Int)] w fun e w'=>e=.returned (.tuple #[.int .i64 2,.int .i64 (pastI Tp.digit l i:Int)])/\Below w.heap.size w w':=by
 have v:=zm
 have f:=d i l[i] (List.getElem?_eq_getElem q)
 have u:(i:Int)<(l.length:Int):=by omega
 have n:Hid (TxAt w b l):=d
 have o:Hid (Tp.letter l[i]=false):=k
 have m:Hid (Tp.digit l[i]=true):=hd
 clear d k hd
 go_enter Tryz.func72,Tryz.ntmps72
 go_wp2_with fail
 go_quiet ((go_at_call 127;exact Calls.quiet_of_same (jA o)))
 go_wp2_with fail
 obtain⟨a,c⟩:∃a,a=(((w.alloc (.cells #[.func (.func 127) #[] #[]] 144)).alloc (.cells #[.func (.func 128) #[] #[]] 144)).drewN nq):=⟨_,rfl⟩
 have h:Below w.heap.size w a:=by rw[c];exact below_drewN ((zb _ _).alloc (by simp) _) nq
 have s:a.cell? ⟨b,i,none⟩=some (.int .u8 (l[i].toNat:Int)):=(h.cell (p:=⟨b,i,none⟩) j).trans f
 have t:a.cell? ⟨w.heap.size+1,0,none⟩=some (.func (.func 128) #[] #[]):=by rw[c];simp[go_sem]
 rw[<-c]
 clear c f
 go_quiet ((go_at_call 128;exact Calls.quiet_of_same (digit_is m)))
 have g:Below w.heap.size w (a.drewN nq):=below_drewN h _
 go_wp2_with fail
 refine(past_digit (n.out.below g j) i (by omega) r).mono ?_
 rintro e x⟨rfl,rfl⟩
 go_wp2_with fail
 go_ret2
 exact⟨rfl,g⟩
theorem cut_mark (B:TxAt w b l)(F:b<w.heap.size)(A:Mk w)(i:Nat)(hi:i<l.length)(hl:l.length<=100000)(hc:l.length<=cap)(J:Tp.letter l[i]=false)(hd:Tp.digit l[i]=false) :
  Calls Tryz.prog 72 #[.slice (some ⟨b,0,none⟩) l.length cap,.int .i64 (i:Int)] w fun e w'=>Below w.heap.size w w'/\CutPost w l i e w':=by
 have C:=B i l[i] (List.getElem?_eq_getElem hi)
 have a3:(i:Int)<(l.length:Int):=by omega
 have HT:Hid (TxAt w b l):=B
 have HW:Hid (Tp.letter l[i]=false):=J
 have Z:Hid (Tp.digit l[i]=false):=hd
 clear B J hd
 go_enter Tryz.func72,Tryz.ntmps72
 go_wp2_with fail
 go_quiet ((go_at_call 127;exact Calls.quiet_of_same (jA HW)))
 go_wp2_with fail
 obtain⟨g,o⟩:∃g,g=(((w.alloc (.cells #[.func (.func 127) #[] #[]] 144)).alloc (.cells #[.func (.func 128) #[] #[]] 144)).drewN nq):=⟨_,rfl⟩
 have y:Below w.heap.size w g:=by rw[o];exact below_drewN ((zb _ _).alloc (by simp) _) nq
 have K:g.cell? ⟨b,i,none⟩=some (.int .u8 (l[i].toNat:Int)):=(y.cell (p:=⟨b,i,none⟩) F).trans C
 have N:g.cell? ⟨w.heap.size+1,0,none⟩=some (.func (.func 128) #[] #[]):=by rw[o];simp[go_sem]
 rw[<-o]
 clear o C
 go_quiet ((go_at_call 128;exact Calls.quiet_of_same (digit_is Z)))
 obtain⟨a,u⟩:∃a,a=g.drewN nq:=⟨_,rfl⟩
 have d:Below w.heap.size w a:=by rw[u];exact below_drewN y _
 rw[<-u]
 have V:=A.below d A.1
 have R:Hid (TxAt a b l):=HT.out.below d F
 clear u K N y A
 go_wp2_with (refine yL rfl 209 (.global 1) rfl mkAgg (mk_load V) ?_)
 obtain⟨P,I⟩:∃P,P=(fun m:List UInt8=>m.isPrefixOf (l.drop i)):=⟨_,rfl⟩
 have j:Hid (P=(fun m:List UInt8=>m.isPrefixOf (l.drop i))):=I
 clear I
 go_loop [32] (fun v=>∃k:Nat,k<=18/\v=.int .i64 (k:Int)/\(Tp.marks.drop k).find? P=Tp.marks.find? P) (fun v=>18-(intOf v).toNat)
 case atStart=>exact⟨0,by omega,rfl,rfl⟩
 case round =>
  obtain⟨k,hk,rfl,E⟩:=hrel
  have s:Hid ((Tp.marks.drop k).find? P=Tp.marks.find? P):=E
  clear E
  by_cases z:k<18
  ·have U:=mk_idx a k z
   have D:=M_len k z
   have n:Hid (Tp.marks.drop k=M k :: Tp.marks.drop (k+1)):=mark_drop k z
   have W:(bs (M k)).size=(M k).length:=by simp[bs,ByteArray.size]
   have X:=zk (M k)
   generalize M k=m at U D n W X
   obtain⟨a0,a1⟩:=D
   by_cases O:i+m.length<=l.length
   ·have r:((l.drop i).take m.length).length=m.length:=by simp;omega
    have T:∀c,(convert 143 9 (.slice (some ⟨b,i,none⟩) m.length c)).run Tryz.prog a=.ok (.string (bs ((l.drop i).take m.length))) a:=by
     intro c
     have q:=conv_at (cap:=c) (m:=(l.drop i).take m.length) R.out (by rw[r])
     rw[r]at q
     exact q
    have Y:=zk ((l.drop i).take m.length)
    have t:=prefix_iff m l i O
    have L:(i:Int)+(m.length:Int)<=(l.length:Int):=by omega
    have a2:(i:Int)<(cap:Int):=by omega
    generalize (l.drop i).take m.length=x at T Y t r
    have H:Hid (m.isPrefixOf (l.drop i)=decide (x=m)):=t
    clear t r
    by_cases f:x=m
    ·have Q:(x==m)=true:=by simp[f]
     have h:Hid (Tp.marks.find? P=some m):=by
      unfold Hid;rw[<-s.out,n.out,j.out,List.find?_cons,H.out,decide_eq_true f]
     clear f
     go_wp2_with fail
     go_ret2
     refine⟨d,?_⟩
     unfold CutPost
     rw[<-j.out,h.out]
     simp
    ·have Q:(x==m)=false:=by simp[f]
     have h:Hid ((Tp.marks.drop (k+1)).find? P=Tp.marks.find? P):=by
      unfold Hid;rw[<-s.out,n.out,j.out,List.find?_cons,H.out,decide_eq_false f]
     clear f
     go_wp2_with fail
     go_round
     case rel=>exact⟨k+1,by omega,by go_num,h.out⟩
     case measure=>simp[intOf];omega
   ·have L:(l.length:Int)<(i:Int)+(m.length:Int):=by omega
    have h:Hid ((Tp.marks.drop (k+1)).find? P=Tp.marks.find? P):=by
     unfold Hid;rw[<-s.out,n.out,j.out,List.find?_cons,ui m l i (by omega) (by omega)]
    go_wp2_with fail
    go_round
    case rel=>exact⟨k+1,by omega,by go_num,h.out⟩
    case measure=>simp[intOf];omega
  ·have HK:Hid (k=18):=by unfold Hid;omega
   go_wp2_with fail
   refine(j5 3 i a).mono ?_
   rintro e w2⟨G,S⟩
   obtain⟨ab,q1,rfl,q2,q3⟩:=G.out
   go_wp2_with fail
   refine⟨rfl,d.trans (S.mono d.size),?_⟩
   unfold CutPost
   rw[<-j.out,<-s.out,HK.out]
   exact G.mono d.size
theorem uH (h:Tp.cut l=some (i,n)):1<=n/\n<=l.length:=by
 cases l with
 |nil=>cases h
 |cons c t =>
  unfold Tp.cut at h
  by_cases a:Tp.letter c
  ·simp only[a,if_true,Option.some.injEq,Prod.mk.injEq]at h
   have:=(List.takeWhile_prefix Tp.ld (l:=c :: t)).length_le
   rw[List.takeWhile_cons,if_pos (by simp[Tp.ld,a])]at h this
   simp at h this
   simp;omega
  ·by_cases b:Tp.digit c
   ·simp only[a,b,if_true,Bool.false_eq_true,if_false,Option.some.injEq,Prod.mk.injEq]at h
    have:=(List.takeWhile_prefix Tp.digit (l:=c :: t)).length_le
    rw[List.takeWhile_cons,if_pos b]at h this
    simp at h this
    simp;omega
   ·simp only[a,b,Bool.false_eq_true,if_false]at h
    rw[Option.map_eq_some_iff]at h
    obtain⟨m,d,e⟩:=h
    have f:=List.find?_some d
    have j:=(List.isPrefixOf_iff_prefix.1 f).length_le
    have g:∀m,m∈Tp.marks->1<=m.length:=by decide
    have:=g m (List.mem_of_find?_eq_some d)
    simp only[Prod.mk.injEq]at e
    omega
def SC (cnt pos:Nat) (l:List UInt8):Except Tp.Er (List Tok):=Tp.scan (l.length+1) cnt pos l
theorem scan_fuel:∀(n:Nat) (l:List UInt8) (f a pos:Nat),l.length<=n->l.length<f->Tp.scan f a pos l=SC a pos l:=by
 intro n
 induction n with
 |zero =>
  intro l f a pos b d
  have:l=[]:=List.eq_nil_of_length_eq_zero (by omega)
  subst this
  cases f with
  |zero=>omega
  |succ f=>rfl
 |succ n ih =>
  intro l f a pos b d
  cases f with
  |zero=>omega
  |succ f =>
   cases l with
   |nil=>rfl
   |cons c t =>
    simp at b d
    unfold SC
    rw[Tp.scan,Tp.scan]
    by_cases g:Tp.blank c
    ·simp only[g,if_true]
     rw[ih t f _ _ (by omega) (by omega),ih t (c :: t).length _ _ (by omega) (by simp)]
    ·simp only[g,Bool.false_eq_true,if_false]
     cases h:Tp.cut (c :: t) with
     |none=>rfl
     |some v =>
      obtain⟨m,k⟩:=v
      have j:=uH h
      simp at j
      simp only
      by_cases e:a=600
      ·simp only[e,if_true]
      ·simp only[e,if_false]
       have i:((c :: t).drop k).length<=t.length:=by simp;omega
       rw[ih ((c :: t).drop k) f _ _ (by omega) (by omega),ih ((c :: t).drop k) (c :: t).length _ _ (by omega) (by simp at i ⊢;omega)]
def consT (t:Tok):Except Tp.Er (List Tok)->Except Tp.Er (List Tok)
 | .error e=>.error e
 | .ok l=>.ok (t :: l)
def addT (a:List Tok):Except Tp.Er (List Tok)->Except Tp.Er (List Tok)
 | .error e=>.error e
 | .ok l=>.ok (a++l)
theorem SC_nil (a pos:Nat):SC a pos []=.ok [⟨0,pos,[]⟩]:=rfl
theorem SC_blank (h:Tp.blank c=true):SC a pos (c :: t)=SC a (pos+1) t:=by
 unfold SC
 rw[List.length_cons,Tp.scan]
 simp only[h,if_true]
theorem SC_none (h:Tp.blank c=false)(b:Tp.cut (c :: t)=none):SC a pos (c :: t)=.error (3,pos):=by
 unfold SC
 rw[List.length_cons,Tp.scan]
 simp only[h,Bool.false_eq_true,if_false,b]
theorem SC_full (h:Tp.blank c=false)(a:Tp.cut (c :: t)=some (b,n)):SC 600 pos (c :: t)=.error (4,pos):=by
 unfold SC
 rw[List.length_cons,Tp.scan]
 simp only[h,Bool.false_eq_true,if_false,a,if_true]
theorem SC_tok {d:Nat}(h:Tp.blank c=false)(b:Tp.cut (c :: t)=some (d,n))(e:a≠600):SC a pos (c :: t)=consT ⟨d,pos,(c :: t).take n⟩ (SC (a+1) (pos+n) ((c :: t).drop n)):=by
 have f:=uH b
 simp at f
 conv=>lhs;unfold SC
 rw[List.length_cons,Tp.scan]
 simp only[h,Bool.false_eq_true,if_false,b,e]
 rw[scan_fuel ((c :: t).drop n).length _ _ _ _ zn (by simp;omega)]
 cases SC (a+1) (pos+n) ((c :: t).drop n)<;>rfl
theorem SC_past {c:Nat}:∀(n i:Nat),l.length-i<=n->i<=l.length->SC c (pastI Tp.blank l i) (l.drop (pastI Tp.blank l i))=SC c i (l.drop i):=by
 intro n
 induction n with
 |zero =>
  intro i d e
  rw[yE (by omega)]
 |succ n ih =>
  intro i d e
  by_cases a:i<l.length
  ·cases b:Tp.blank l[i]
   ·rw[kU a b]
   ·rw[<-ka a b,ih (i+1) (by omega) (by omega),List.drop_eq_getElem_cons a,SC_blank b]
  ·rw[yE a]
def tcells (t:Tok):List Value:=[.int .i64 (t.kind:Int),.int .i64 (t.pos:Int),.string (bs t.text)]
def tksC (l:List Tok):List Value:=(l.map tcells).flatten
theorem Tryz.infoToken:(Tryz.prog.info? 150).map (fun i=>(i.zero,i.size,i.bytes))=some (some (.agg #[.int .i64 0,.int .i64 0,.string ⟨#[]⟩]),3,32):=by kernel_rfl
theorem addT_consT (a:List Tok)(t:Tok)(x:Except Tp.Er (List Tok)):addT a (consT t x)=addT (a++[t]) x:=by
 cases x with
 |error e=>rfl
 |ok v=>simp[addT,consT]
theorem cut_at (l:List UInt8)(i:Nat)(h:i<l.length):Tp.cut (l.drop i)=if Tp.letter l[i] then some (1,pastI Tp.ld l i-i) else if Tp.digit l[i] then some (2,pastI Tp.digit l i-i) else (Tp.marks.find? (fun m=>m.isPrefixOf (l.drop i))).map (fun m=>(3,m.length)):=by
 unfold pastI
 rw[List.drop_eq_getElem_cons h]
 unfold Tp.cut
 simp only[Nat.add_sub_cancel_left]
def CutP (w:World) (l:List UInt8) (i:Nat) (e:Ending) (w':World):Prop :=
 match Tp.cut (l.drop i) with
 |some (kd,n)=>e=.returned (.tuple #[.int .i64 (kd:Int),.int .i64 ((i+n:Nat):Int)])
 |none=>Thrown w.heap.size (3,i) e w'
theorem cut_post {j:Nat}(g:TxAt w j l)(c:j<w.heap.size)(n:Mk w)(i:Nat)(b:i<l.length)(d:l.length<=100000)(p:l.length<=cap) :
  Calls Tryz.prog 72 #[.slice (some ⟨j,0,none⟩) l.length cap,.int .i64 (i:Int)] w fun e w'=>Below w.heap.size w w'/\CutP w l i e w':=by
 unfold CutP
 rw[cut_at l i b]
 cases h:Tp.letter l[i]
 ·cases hd:Tp.digit l[i]
  ·refine(cut_mark g c n i b d p h hd).mono ?_
   rintro e w'⟨o,a⟩
   refine⟨o,?_⟩
   unfold CutPost at a
   simp only[Bool.false_eq_true,if_false]
   cases k:Tp.marks.find? (fun m=>m.isPrefixOf (l.drop i)) with
   |none=>rw[k]at a;exact a
   |some m=>rw[k]at a;exact a
  ·refine(cut_num g c i b d h hd).mono ?_
   rintro e w'⟨rfl,a⟩
   have:=jt (f:=Tp.digit) (l:=l) (i:=i) (by omega)
   refine⟨a,?_⟩
   simp only[Bool.false_eq_true,if_false,if_true]
   rw[show i+(pastI Tp.digit l i-i)=pastI Tp.digit l i by omega]
   rfl
 ·refine(cut_word g c i b d h).mono ?_
  rintro e w'⟨rfl,a⟩
  have:=jt (f:=Tp.ld) (l:=l) (i:=i) (by omega)
  refine⟨a,?_⟩
  simp only[if_true]
  rw[show i+(pastI Tp.ld l i-i)=pastI Tp.ld l i by omega]
  rfl
theorem cut_some (o:TxAt w b l)(f:b<w.heap.size)(d:Mk w)(i:Nat)(j:i<l.length)(k:l.length<=100000)(h:l.length<=cap){c n:Nat}(m:Hid (Tp.cut (l.drop i)=some (c,n))) :
  Calls Tryz.prog 72 #[.slice (some ⟨b,0,none⟩) l.length cap,.int .i64 (i:Int)] w fun e w'=>e=.returned (.tuple #[.int .i64 (c:Int),.int .i64 ((i+n:Nat):Int)])/\Below w.heap.size w w':=by
 refine(cut_post o f d i j k h).mono ?_
 rintro e w'⟨g,a⟩
 unfold CutP at a
 rw[m.out]at a
 exact⟨a,g⟩
theorem cut_none (m:TxAt w b l)(d:b<w.heap.size)(c:Mk w)(i:Nat)(h:i<l.length)(j:l.length<=100000)(g:l.length<=cap)(k:Hid (Tp.cut (l.drop i)=none)) :
  Calls Tryz.prog 72 #[.slice (some ⟨b,0,none⟩) l.length cap,.int .i64 (i:Int)] w fun e w'=>Thrown w.heap.size (3,i) e w'/\Below w.heap.size w w':=by
 refine(cut_post m d c i h j g).mono ?_
 rintro e w'⟨f,a⟩
 unfold CutP at a
 rw[k.out]at a
 exact⟨a,f⟩
theorem jU {f:UInt8->Bool}:∀(n i:Nat),l.length-i<=n->(h:pastI f l i<l.length)->f l[pastI f l i]=false:=by
 intro n
 induction n with
 |zero =>
  intro i c h
  have:¬i<l.length:=by omega
  rw[yE this]at h
  exact absurd h this
 |succ n ih =>
  intro i c h
  by_cases a:i<l.length
  ·cases b:f l[i]
   ·have e:=kU a b
    simp only[e,b]
   ·have e:=ka a b
    have:=ih (i+1) (by omega) (by rw[e];exact h)
    simp only[e]at this
    exact this
  ·rw[yE a]at h
   exact absurd h a
theorem TxAt.ofBytes (w:World)(e:TypeId)(l:List UInt8):TxAt (Lib.bytesWorld w e (bs l)) w.heap.size l:=by
 intro j c a
 have b:j<l.length:=by rw[List.getElem?_eq_some_iff]at a;exact a.1
 rw[Lib.bytesWorld_cell w e (bs l) j (by simpa[bs,ByteArray.size] using b)]
 simp[bs,List.getD_eq_getElem?_getD,a]
theorem uM (w:World)(e:TypeId)(s:ByteArray):Below w.heap.size w (Lib.bytesWorld w e s) :=
 ⟨by simp only[Lib.bytesWorld,World.freeze];repeat (first|rfl|split),by simp only[Lib.bytesWorld,World.freeze];repeat (first|rfl|split),by simp only[Lib.bytesWorld,World.freeze];repeat (first|rfl|split),by rw[Lib.bytesWorld_size];omega,fun k a=>Lib.bytesWorld_at_old w e s k a⟩
def ScanP (w:World) (l:List UInt8) (e:Ending) (w':World):Prop :=
 match SC 0 0 l with
 | .ok ts=>∃v,e=.returned v/\w'.ownsRow w.heap.size 150 3 v ts.length (tksC ts)
 | .error er=>Thrown w.heap.size er e w'
theorem news3 (w:World)(a b c:Value)(t:TypeId):∀j u,[a,b,c][j]?=some u->(w.alloc (.cells #[a,b,c] t)).cell? ((⟨w.heap.size,0,none⟩:Addr).add j)=some u:=by
 intro j u d
 rw[Addr.add_lit,za (zl _ _),Nat.zero_add]
 simpa using d
theorem yP {c e size:Nat}{v:Value}{xs:List Value}(h:w.ownsRow c e size v n xs)(k:Below w.heap.size w w'):w'.ownsRow c e size v n xs:=by
 refine⟨h.1,?_⟩
 rcases h.2 with a|⟨g,cap,d,a,f,b,i⟩
 ·exact Or.inl a
 ·refine Or.inr ⟨g,cap,d,a,f,?_,i⟩
  have j:g<w.heap.size:=by rw[Array.getElem?_eq_some_iff]at b;exact b.1
  rw[k.block g j];exact b
theorem xW (l:List Tok)(t:Tok):tksC (l++[t])=tksC l++tcells t:=by simp[tksC]
theorem scan_post (w:World)(l:List UInt8)(O:l.length<=100000)(U:Mk w) :
  Calls Tryz.prog 37 #[.string (bs l)] w fun e w'=>Below w.heap.size w w'/\ScanP w l e w':=by
 obtain⟨i0,a6,a8,a9,b0⟩:=info_parts Tryz.infoToken
 have z:=Lib.run_convert_string_bytes (P:=Tryz.prog) w 9 143 5 (bs l) Tryz.underlying9 Tryz.underlying143 Tryz.underlying5
 have b2:(bs l).size=l.length:=by simp[bs,ByteArray.size]
 have J:=grownCap_ge w (bs l).size 0 5
 have N:=TxAt.ofBytes w 5 l
 have M:=uM w 5 (bs l)
 have a3:=Lib.bytesWorld_size w 5 (bs l)
 rw[b2]at z J
 generalize grownCap w l.length 0 5=cap at z J
 generalize Lib.bytesWorld w 5 (bs l)=W0 at z N M a3
 go_enter Tryz.func37,Tryz.ntmps37
 go_wp2_with fail
 refine(jT N 0 (by omega) O).mono ?_
 rintro e b⟨rfl,rfl⟩
 have a1:=U.below M U.1
 have b4:=jt (f:=Tp.blank) (l:=l) (i:=0) (by omega)
 have HT:Hid (TxAt b w.heap.size l):=N
 have W:Hid (Below w.heap.size w b):=M
 have HM:Hid (Mk b):=a1
 have b9:w.heap.size<b.heap.size:=by omega
 clear N M a1 z U a3
 go_wp2_with fail
 go_loopg [5,6] (l.length+1) (fun k v vi wr=>∃(a:List Tok) (i:Nat),vi=.int .i64 (i:Int)/\i<=l.length/\l.length-i<k/\a.length<=600/\wr.ownsRow b.heap.size 150 3 v a.length (tksC a)/\Below b.heap.size b wr/\addT a (SC a.length i (l.drop i))=SC 0 0 l/\(∀h:i<l.length,Tp.blank l[i]=false))
 case atStart =>
  refine⟨[],pastI Tp.blank l 0,rfl,b4.2,by omega,by simp,World.ownsRow_nil _ _ _ _,Below.refl _ _,?_,fun h=>jU l.length 0 (by omega) h⟩
  rw[List.length_nil,SC_past l.length 0 (by omega) (by omega),List.drop_zero]
  cases SC 0 0 l<;>rfl
 case round =>
  obtain⟨a,i,rfl,c9,c8,c0,y,r,a0,a7⟩:=hrel
  have L:Hid (addT a (SC a.length i (l.drop i))=SC 0 0 l):=a0
  have R:Hid (∀h:i<l.length,Tp.blank l[i]=false):=a7
  obtain⟨ao,cp,b7⟩:=z7 y
  subst b7
  have K:=r.size
  clear a0 a7
  by_cases d:i<l.length
  ·have b1:(i:Int)<(l.length:Int):=by omega
   have I:=HT.out.below r (by omega)
   have T:=HM.out.below r HM.out.1
   have b3:Hid (TxAt wr w.heap.size l):=I
   generalize G:Tp.cut (l.drop i)=c
   cases c with
   |none =>
    have A:Hid (Tp.cut (l.drop i)=none):=G
    clear G
    go_wp2_with fail
    refine(cut_none I (by omega) T i d O J A).mono ?_
    rintro e j⟨t,o⟩
    obtain⟨ab,Y,rfl,Z,q3⟩:=t.out
    have S:Hid (Thrown wr.heap.size (3,i) _ j):=t
    have E:Hid (Below w.heap.size w j):=W.out.trans ((r.trans (o.mono K)).mono (by omega))
    clear t Y Z q3
    go_wp2_with fail
    refine⟨rfl,E.out,?_⟩
    have p:=A.out
    have F:=R.out d
    unfold ScanP
    rw[List.drop_eq_getElem_cons d]at p
    rw[<-L.out,List.drop_eq_getElem_cons d,SC_none F p]
    exact S.out.mono (by omega)
   |some kn =>
    obtain⟨H,n⟩:=kn
    have A:Hid (Tp.cut (l.drop i)=some (H,n)):=G
    have hn:=uH G
    clear G
    simp only[List.length_drop]at hn
    go_wp2_with fail
    refine(cut_some I (by omega) T i d O J A).mono ?_
    rintro e j⟨rfl,o⟩
    have a4:=b3.out.below o (by omega)
    have Q:=yP y o
    have V:((l.drop i).take n).length=n:=by simp;omega
    have z:∀c,(convert 143 9 (.slice (some ⟨w.heap.size,i,none⟩) n c)).run Tryz.prog j=.ok (.string (bs ((l.drop i).take n))) j:=by
     intro c
     have q:=conv_at (cap:=c) (m:=(l.drop i).take n) a4 (by rw[V])
     rw[V]at q
     exact q
    clear I T y a4
    by_cases h6:a.length=600
    ·have a2:(a.length:Int)=600:=by omega
     clear h6
     go_wp2_with fail
     refine(j5 4 i j).mono ?_
     rintro e g⟨t,s⟩
     obtain⟨ab,Y,rfl,Z,q3⟩:=t.out
     have S:Hid (Thrown j.heap.size (4,i) _ g):=t
     have b6:=o.size
     have E:Hid (Below w.heap.size w g):=W.out.trans (((r.trans (o.mono K)).trans (s.mono (by omega))).mono (by omega))
     clear t Y Z q3
     go_wp2_with fail
     refine⟨rfl,E.out,?_⟩
     have p:=A.out
     have F:=R.out d
     unfold ScanP
     rw[List.drop_eq_getElem_cons d]at p
     rw[<-L.out,List.drop_eq_getElem_cons d,show a.length=600 by omega,SC_full F p]
     exact S.out.mono (by omega)
    ·have a2:¬(a.length:Int)=600:=by omega
     have b8:((a.length:Int)==600)=false:=by simpa using a2
     generalize hx:(l.drop i).take n=x at z V
     have c6:(i:Int)<(cap:Int):=by omega
     have c7:(i:Int)+(n:Int)<=(cap:Int):=by omega
     have b6:=o.size
     go_wp2_with (at_builtin;refine wpList_append_own _ rfl _ _ 93 rfl b.heap.size 150 i0 (.agg #[.int .i64 0,.int .i64 0,.string ⟨#[]⟩]) 3 32 Tryz.underlying93 a6 a8 a9 b0 rfl (by decide) _ _ _ rfl (Q.alloc _) ⟨j.heap.size,0,none⟩ 1 1 [.int .i64 (H:Int),.int .i64 (i:Int),.string (bs x)] rfl rfl ?c1 ?c2 ?c3 ?c4 ?c5 ?_)
     case c1=>exact news3 _ _ _ _ _
     case c2=>intro u hu;simp at hu;rcases hu with rfl|rfl|rfl<;>rfl
     case c3=>unfold maxLen;omega
     case c4=>omega
     case c5=>simp;omega
     ·intro v' g C B _
      have s:Below b.heap.size j g:=((Below.refl _ _).alloc (by omega) _).trans ((Below.refl _ _).grown B (by simp;omega) (zL Q))
      have D:Below b.heap.size b g:=(r.trans (o.mono K)).trans s
      have X:Hid (g.ownsRow b.heap.size 150 3 v' (a++[(⟨H,i,x⟩:Tok)]).length (tksC (a++[(⟨H,i,x⟩:Tok)]))):=by unfold Hid;rw[xW];simpa[tcells] using C
      clear B Q C s
      have a5:=HT.out.below D (by omega)
      go_wp2_with fail
      refine(jT a5 (i+n) (by omega) O).mono ?_
      rintro e w4⟨rfl,rfl⟩
      have b5:=jt (f:=Tp.blank) (l:=l) (i:=i+n) (by omega)
      clear a5
      go_wp2_with fail
      go_roundg (gk-1)
      case measure=>omega
      case rel =>
       refine⟨a++[⟨H,i,x⟩],pastI Tp.blank l (i+n),rfl,b5.2,by omega,by simp;omega,X.out,D,?_,fun h=>jU l.length (i+n) (by omega) h⟩
       have p:=A.out
       have F:=R.out d
       rw[<-L.out,SC_past l.length (i+n) (by omega) (by omega)]
       rw[List.drop_eq_getElem_cons d]at p ⊢
       rw[SC_tok F p h6,addT_consT,<-List.drop_eq_getElem_cons d,List.drop_drop,hx]
       simp
  ·have b1:¬(i:Int)<(l.length:Int):=by omega
   go_wp2_with (at_builtin;refine wpList_append_own _ rfl _ _ 93 rfl b.heap.size 150 i0 (.agg #[.int .i64 0,.int .i64 0,.string ⟨#[]⟩]) 3 32 Tryz.underlying93 a6 a8 a9 b0 rfl (by decide) _ _ _ rfl (y.alloc _) ⟨wr.heap.size,0,none⟩ 1 1 [.int .i64 0,.int .i64 (l.length:Int),.string ⟨#[]⟩] rfl rfl ?c1 ?c2 ?c3 ?c4 ?c5 ?_)
   case c2=>exact⟨rfl,rfl,rfl⟩
   case c3=>unfold maxLen;omega
   case c4=>omega
   case c5=>omega
   ·intro v' g C B _
    have s:Below b.heap.size wr g:=((Below.refl _ _).alloc K _).trans ((Below.refl _ _).grown B (by simp;omega) (zL y))
    have D:Below b.heap.size b g:=r.trans s
    have X:Hid (g.ownsRow b.heap.size 150 3 v' (a++[(⟨0,l.length,[]⟩:Tok)]).length (tksC (a++[(⟨0,l.length,[]⟩:Tok)]))):=by unfold Hid;rw[xW];simpa[tcells,bs] using C
    have E:Hid (Below w.heap.size w g):=W.out.trans (D.mono (by omega))
    clear B y C s D
    go_wp2_with fail
    go_ret
    refine⟨E.out,?_⟩
    have e0:i=l.length:=by omega
    unfold ScanP
    rw[<-L.out,e0,List.drop_length,SC_nil]
    exact⟨_,rfl,yQ X.out (by omega)⟩
end Go.Proofs.YtbkndnmglhghlaaGreatDoor

namespace Go.Proofs.YtbkndnmglhghlaaGreatDoor
open Go.RowKit
open Tp (Tok hd tx at' stp X S G Pr)
variable {a b:Nat}{w:World}
theorem caught_at (a:Option Addr)(w:World) :
  Calls Tryz.prog 36 #[.iface 141 (.pointer a)] w fun e w'=>e=.returned (.iface 141 (.pointer a))/\w'=w:=by
 have b:∀(a:Option Addr) (w:World),(Instr.typeAssert (.iface 141 (.pointer a)) 20 141 true).run Tryz.prog w=.ok (.tuple #[.pointer a,.bool true]) w:=fun a w=>by kernel_rfl
 go_enter Tryz.func36,Tryz.ntmps36
 go_wp2
 go_ret
 exact⟨rfl,rfl⟩
def m0:Array Value:=#[.string ⟨#[]⟩,.slice none 0 0,.slice none 0 0,.slice none 0 0,.slice none 0 0]
theorem kG (a eb b:Nat)(older:List PanicEntry)(w:World)(c:∀i,i<5->(w.cell? ⟨a,i,none⟩).isSome=true)(A:∀i,w.frozen? ⟨a,i,none⟩=false)(k:(w.cell? ⟨eb,0,none⟩).isSome=true)(ze:w.frozen? ⟨eb,0,none⟩=false)(l:a≠eb) :
  CallsD Tryz.prog 35 #[.pointer (some ⟨a,0,none⟩),.pointer (some ⟨eb,0,none⟩)] (.panicking ({ v:=.iface 141 (.pointer (some ⟨b,0,none⟩)),recovered:=false } :: older)) w fun e p w' =>
   e=.returned (.tuple #[])/\p=.panicking ({ v:=.iface 141 (.pointer (some ⟨b,0,none⟩)),recovered:=true } :: older)/\w'=(((((w.setCell ⟨a,0,none⟩ (.string ⟨#[]⟩)).setCell ⟨a,1,none⟩ (.slice none 0 0)).setCell ⟨a,2,none⟩ (.slice none 0 0)).setCell ⟨a,3,none⟩ (.slice none 0 0)).setCell ⟨a,4,none⟩ (.slice none 0 0)).setCell ⟨eb,0,none⟩ (.iface 141 (.pointer (some ⟨b,0,none⟩))):=by
 refine callsD_of_wpS Tryz.func35 rfl fun s r o=>?_
 apply wpS_seq
 apply wpS_region
 simp[wpOpsS,go_sem,recoverD,o,Tryz.ntmps35,Exit.thenS]
 refine wpS_of_wp ?_
 have d:=c 0 (by omega)
 have f:=c 1 (by omega)
 have g:=c 2 (by omega)
 have h:=c 3 (by omega)
 have j:=c 4 (by omega)
 rw[Option.isSome_iff_exists]at d f g h j k
 obtain⟨u,d⟩:=d
 obtain⟨x,f⟩:=f
 obtain⟨x2,g⟩:=g
 obtain⟨x3,h⟩:=h
 obtain⟨y,j⟩:=j
 obtain⟨z,t⟩:=k
 have q:eb≠a:=fun e=>l e.symm
 generalize n:(fun (e:Exit) (m:Act) (w':World)=>bodyPostS Tryz.prog _ _ _ _ e m _ w')=Q
 show Code.wp Tryz.prog _ _ { tmps:=#[.pointer (some ⟨a,0,none⟩),.pointer (some ⟨eb,0,none⟩),.iface 141 (.pointer (some ⟨b,0,none⟩)),.iface 141 (.pointer (some ⟨b,0,none⟩)),undef,undef,undef,undef,undef],defers:=[] } w
 go_wp2_with fail
 refine(caught_at _ w).mono ?_
 rintro e w'⟨rfl,rfl⟩
 go_wp2_with fail
 subst n
 simp[bodyPostS,results,Tryz.results35]
theorem late_idle (m e:Addr)(w:World) :
  CallsD Tryz.prog 35 #[.pointer (some m),.pointer (some e)] .returning w fun e f w'=>e=.returned (.tuple #[])/\f=.returning/\w'=w:=by
 refine callsD_of_wpS Tryz.func35 rfl fun b g d=>?_
 apply wpS_seq
 apply wpS_region
 simp[wpOpsS,go_sem,recoverD,d,Tryz.ntmps35,Exit.thenS]
 refine wpS_of_wp ?_
 generalize c:(fun (e:Exit) (a:Act) (w':World)=>bodyPostS Tryz.prog _ _ _ _ e a _ w')=Q
 show Code.wp Tryz.prog _ _ { tmps:=#[.pointer (some m),.pointer (some e),.nilIface,.nilIface,undef,undef,undef,undef,undef],defers:=[] } w
 go_wp2_with fail
 subst c
 cases b
 simp_all [bodyPostS,results,Tryz.results35]
theorem toks_of {m d n cap:Nat}{a:List Tok}(h:w.ownsRow m 150 3 (.slice (some ⟨d,0,none⟩) n cap) a.length (tksC a)):n=a.length/\m<=d/\d<w.heap.size/\∀i t,a[i]?=some t->TokAt w d i t:=by
 rcases h.2 with⟨q,_⟩|⟨g,c,cur,q0,q1,q2,q3,q4,q5,q6⟩
 ·cases q
 ·cases q0
  refine⟨rfl,q1,zc q2,fun i t b=>?_⟩
  have r:i<a.length:=by rw[List.getElem?_eq_some_iff]at b;exact b.1
  have f:∀j,j<3->w.cell? ⟨d,i*3+j,none⟩=(tksC a)[i*3+j]?:=by
   intro j o
   rw[za q2,<-Array.getElem?_toList,<-q6,List.getElem?_take_of_lt (by omega)]
  have k:∀(l:List Tok) (i j:Nat) (t:Tok),l[i]?=some t->j<3->(tksC l)[i*3+j]?=(tcells t)[j]?:=by
   intro l
   induction l with
   |nil=>intro i j t h;cases h
   |cons u l ih =>
    intro i j t h o
    have e:tksC (u :: l)=tcells u++tksC l:=by simp[tksC]
    have p:(tcells u).length=3:=by simp[tcells]
    rw[e]
    cases i with
    |zero=>simp at h;subst h;rw[List.getElem?_append_left (by omega)];simp
    |succ i =>
     rw[List.getElem?_append_right (by omega),p,show (i+1)*3+j-3=i*3+j by omega]
     exact ih i j t (by simpa using h) o
  refine⟨?_,?_,?_⟩
  ·have:=f 0 (by omega);rw[k a i 0 t b (by omega)]at this;simpa[tcells] using this
  ·have:=f 1 (by omega);rw[k a i 1 t b (by omega)]at this;simpa[tcells] using this
  ·have:=f 2 (by omega);rw[k a i 2 t b (by omega)]at this;simpa[tcells] using this
theorem Ext.toBelow {B:Nat}{w':World}(h:Ext b w w')(c:B<=b)(a:B<=w.heap.size):Below B w w':=⟨h.os,h.tape,h.output,h.size,fun k d=>h.block k (by omega) (by omega)⟩
theorem VM.mono {w w':World}{B B':Nat}{m:Tp.M}{v:Value}(h:VM B m v w)(A:B'<=B)(s:∀b,B<=b->b<w.heap.size->w'.heap[b]?=w.heap[b]?):VM B' m v w':=by
 obtain⟨u,g,y,e,x,i,z,f,d,c,j,k,l,n,o,p,q⟩:=h
 have a:∀b,B<=b->b<w.heap.size->w'.heap[b]?=w.heap[b]?/\B'<=b:=fun b r t=>⟨s b r t,by omega⟩
 exact⟨u,g,y,e,x,i,z,f,d,c,j,k.mono a,l.mono a,RepP.mono a _ _ n,o.mono a,p.mono' a,q.mono a⟩
def ParseP (w:World) (l:List UInt8) (e:Ending) (w':World):Prop :=
 match Tp.parse l with
 | .ok m=>∃v,e=.returned (.tuple #[v,.nilIface])/\VM w.heap.size m v w'
 | .error er=>∃ab,e=.returned (.tuple #[.agg m0,.iface 141 (.pointer (some ⟨ab,0,none⟩))])/\w.heap.size<=ab/\w'.cell? ⟨ab,0,none⟩=some (.int .i64 (er.1:Int))/\w'.cell? ⟨ab,1,none⟩=some (.int .i64 (er.2:Int))
theorem cells5 {c d e f g:Value}{t:Nat}(h:w.heap[b]?=some (.cells #[c,d,e,f,g] t (0,0))):∀i,i<5->(w.cell? ⟨b,i,none⟩).isSome=true:=by
 intro i a
 rw[za h]
 match i,a with
 | 0,_=>rfl
 | 1,_=>rfl
 | 2,_=>rfl
 | 3,_=>rfl
 | 4,_=>rfl
def late (w:World) (mb eb ab:Nat):World:=(((((w.setCell ⟨mb,0,none⟩ (.string ⟨#[]⟩)).setCell ⟨mb,1,none⟩ (.slice none 0 0)).setCell ⟨mb,2,none⟩ (.slice none 0 0)).setCell ⟨mb,3,none⟩ (.slice none 0 0)).setCell ⟨mb,4,none⟩ (.slice none 0 0)).setCell ⟨eb,0,none⟩ (.iface 141 (.pointer (some ⟨ab,0,none⟩)))
theorem late_below (w:World)(a b:Nat):Below a w (late w a (a+1) b):=zu (jm w a _ _ _ _ _) (by simp) 0 _
theorem vB {c j:Nat}(d:a+1<b):(late w a (a+1) c).cell? ⟨b,j,none⟩=w.cell? ⟨b,j,none⟩:=by
 refine World.cell?_of_block (w:=w) ?_
 unfold late
 rw[Below.heap_setCell _ _ _ _ (by simp;omega),Below.heap_setCell _ _ _ _ (by simp;omega),Below.heap_setCell _ _ _ _ (by simp;omega),Below.heap_setCell _ _ _ _ (by simp;omega),Below.heap_setCell _ _ _ _ (by simp;omega),Below.heap_setCell _ _ _ _ (by simp;omega)]
theorem late_blk (f:w.heap[a]?=some (.cells m0 66 (0,0)))(g:w.heap[a+1]?=some (.cells #[.nilIface] 33 (0,0))):(∀i,(late w a (a+1) b).cell? ⟨a,i,none⟩=m0[i]?)/\(late w a (a+1) b).cell? ⟨a+1,0,none⟩=some (.iface 141 (.pointer (some ⟨b,0,none⟩))):=by
 have c:=zy 4 (.slice none 0 0) (zy 3 (.slice none 0 0) (zy 2 (.slice none 0 0) (zy 1 (.slice none 0 0) (zy 0 (.string ⟨#[]⟩) f))))
 have d:=(Below.heap_setCell (((((w.setCell ⟨a,0,none⟩ (.string ⟨#[]⟩)).setCell ⟨a,1,none⟩ (.slice none 0 0)).setCell ⟨a,2,none⟩ (.slice none 0 0)).setCell ⟨a,3,none⟩ (.slice none 0 0)).setCell ⟨a,4,none⟩ (.slice none 0 0)) ⟨a+1,0,none⟩ (.iface 141 (.pointer (some ⟨b,0,none⟩))) a (by simp)).trans c
 refine⟨fun i=>(za d).trans rfl,?_⟩
 unfold late
 have e:(((((w.setCell ⟨a,0,none⟩ (.string ⟨#[]⟩)).setCell ⟨a,1,none⟩ (.slice none 0 0)).setCell ⟨a,2,none⟩ (.slice none 0 0)).setCell ⟨a,3,none⟩ (.slice none 0 0)).setCell ⟨a,4,none⟩ (.slice none 0 0)).heap[a+1]?=some (.cells #[.nilIface] 33 (0,0)):=by
  rw[Below.heap_setCell _ _ _ _ (by simp),Below.heap_setCell _ _ _ _ (by simp),Below.heap_setCell _ _ _ _ (by simp),Below.heap_setCell _ _ _ _ (by simp),Below.heap_setCell _ _ _ _ (by simp)]
  exact g
 exact(za (zy 0 (.iface 141 (.pointer (some ⟨b,0,none⟩))) e)).trans rfl
theorem parse_post (w:World)(l:List UInt8)(hl:l.length<=100000)(b3:Mk w)(b2:Lv w) :
  Calls Tryz.prog 20 #[.string (bs l)] w fun e w'=>Below w.heap.size w w'/\ParseP w l e w':=by
 have f7:=zm
 obtain⟨a,a3⟩:∃a,a=w.heap.size:=⟨_,rfl⟩
 have d0:=b3.1
 have c9:=b2.1
 go_enter_defers Tryz.func20,Tryz.ntmps20
 go_wp2_with fail
 have T:Below w.heap.size w ((w.alloc (.cells #[.string ⟨#[]⟩,.slice none 0 0,.slice none 0 0,.slice none 0 0,.slice none 0 0] 66)).alloc (.cells #[.nilIface] 33)):=(zb _ _).alloc (by simp) _
 have b9:((w.alloc (.cells #[.string ⟨#[]⟩,.slice none 0 0,.slice none 0 0,.slice none 0 0,.slice none 0 0] 66)).alloc (.cells #[.nilIface] 33)).heap.size=w.heap.size+2:=by simp
 have W:((w.alloc (.cells #[.string ⟨#[]⟩,.slice none 0 0,.slice none 0 0,.slice none 0 0,.slice none 0 0] 66)).alloc (.cells #[.nilIface] 33)).heap[w.heap.size]?=some (.cells #[.string ⟨#[]⟩,.slice none 0 0,.slice none 0 0,.slice none 0 0,.slice none 0 0] 66 (0,0)):=(Below.heap_alloc _ _ _ (by simp)).trans (zl _ _)
 have V:((w.alloc (.cells #[.string ⟨#[]⟩,.slice none 0 0,.slice none 0 0,.slice none 0 0,.slice none 0 0] 66)).alloc (.cells #[.nilIface] 33)).heap[w.heap.size+1]?=some (.cells #[.nilIface] 33 (0,0)):=by
  have:=zl (w.alloc (.cells #[.string ⟨#[]⟩,.slice none 0 0,.slice none 0 0,.slice none 0 0,.slice none 0 0] 66)) (.cells #[.nilIface] 33)
  simpa using this
 generalize ((w.alloc (.cells #[.string ⟨#[]⟩,.slice none 0 0,.slice none 0 0,.slice none 0 0,.slice none 0 0] 66)).alloc (.cells #[.nilIface] 33))=w1 at T b9 W V ⊢
 have e3:=b3.below T d0
 have e0:=b2.below T c9
 have f6:1<a:=by omega
 have f5:4<a:=by omega
 have S:a+2<=w1.heap.size:=by omega
 have c3:Hid (Below a w w1):=by rw[a3];exact T
 have a2:Hid (w.heap.size=a):=a3.symm
 rw[<-a3]at W V ⊢
 clear T b9 d0 c9 b3 b2 a3
 have b6:Hid (∀(h:World) (s:Tp.Er) (d:Nat),Below (a+2) w1 h->a+2<=d->h.cell? ⟨d,0,none⟩=some (.int .i64 (s.1:Int))->h.cell? ⟨d,1,none⟩=some (.int .i64 (s.2:Int))->Tp.parse l=.error s ->
   Below w.heap.size w (late h a (a+1) d)/\ParseP w l (.returned (.tuple #[.agg m0,.iface 141 (.pointer (some ⟨d,0,none⟩))])) (late h a (a+1) d)):=by
  intro h s d E h2 h3 h4 h5
  rw[a2.out]
  refine⟨(c3.out.trans (E.mono (by omega))).trans (late_below h a d),?_⟩
  unfold ParseP
  rw[h5,a2.out]
  exact⟨d,rfl,by omega,(vB (by omega)).trans h3,(vB (by omega)).trans h4⟩
 have c4:Hid (∀h,Below (a+2) w1 h->(∀i,i<5->(h.cell? ⟨a,i,none⟩).isSome=true)/\(∀i,h.frozen? ⟨a,i,none⟩=false)/\(h.cell? ⟨a+1,0,none⟩).isSome=true/\h.frozen? ⟨a+1,0,none⟩=false):=by
  intro h Y
  have P:=(Y.block a (by omega)).trans W
  have Q:=(Y.block (a+1) (by omega)).trans V
  exact⟨cells5 P,fun i=>zi P,by rw[za Q];rfl,zi Q⟩
 have c5:Hid (∀h d,Below (a+2) w1 h->(∀i,(late h a (a+1) d).cell? ⟨a,i,none⟩=m0[i]?)/\(late h a (a+1) d).cell? ⟨a+1,0,none⟩=some (.iface 141 (.pointer (some ⟨d,0,none⟩)))):=by
  intro h d Y
  exact late_blk ((Y.block a (by omega)).trans W) ((Y.block (a+1) (by omega)).trans V)
 refine(scan_post w1 l hl e3).mono ?_
 rintro e k⟨U,N⟩
 unfold ScanP at N
 generalize a4:SC 0 0 l=res at N
 have e4:=U.size
 rcases res with s|tks
 ·obtain⟨d,q1,rfl,q2,q3⟩:=N.out
  have HP:Hid (Tp.parse l=.error s):=by show _=_;unfold Tp.parse;rw[show Tp.scan (l.length+1) 0 0 l=.error s from a4];rfl
  clear a4
  go_wp2_with fail
  obtain⟨c0,z0,ce,ze⟩:=c4.out k (U.mono S)
  refine leaves_cons (f:=35) (args:=#[.pointer (some ⟨a,0,none⟩),.pointer (some ⟨a+1,0,none⟩)]) (by simp) (by simp[go_sem]) ?_
  refine(kG a (a+1) d [] k c0 z0 ce ze (by omega)).mono ?_
  rintro e u' a6⟨rfl,rfl,Z⟩
  have K:=b6.out k s d (U.mono S) (by omega) q2 q3 HP.out
  obtain⟨u,k2⟩:=c5.out k d (U.mono S)
  have X:a6=late k a (a+1) d:=Z
  rw[<-X]at K u k2
  simp only[m0]at u K
  clear Z X
  simp[Leaves,settle,results,Tryz.results20,go_sem,u,k2]
  exact K
 ·obtain⟨v,rfl,a8⟩:=N
  have a9:Hid (Tp.scan (l.length+1) 0 0 l=.ok tks):=a4
  clear a4
  obtain⟨d7,f8,f3,tt,tz,b4,d8⟩:=Tp.scan_tks _ _ _ _ _ a9.out
  have f4:=f3 (by omega)
  have d3:tks≠[]:=by rw[b4];simp
  have d9:Hid (∀t,tks.getLast?=some t->t.kind=0):=by intro t F;rw[b4,List.getLast?_concat]at F;cases F;exact d8
  clear b4 d8
  obtain⟨ta,tc,rfl⟩:=z7 a8
  obtain⟨r,rfl⟩:∃r,ta=some ⟨r,0,none⟩:=by
   rcases a8.2 with⟨q,q'⟩|⟨g,c,cur,q0,_⟩
   ·exact absurd (List.eq_nil_of_length_eq_zero q') d3
   ·cases q0;exact⟨g,rfl⟩
  obtain⟨_,t1,t2,t3⟩:=toks_of a8
  go_wp2_with fail
  refine(xB k).mono ?_
  rintro e o⟨rfl,a5⟩
  have c6:Below k.heap.size k o:=by rw[a5];exact zb _ _
  have e8:o.heap[k.heap.size]?=some (.map (ents 21) 21):=by rw[a5];exact zl _ _
  have d5:k.heap.size<o.heap.size:=by rw[a5];simp
  clear a5
  go_wp2_with fail
  have b0:Below o.heap.size o (o.alloc (.cells #[.slice (some ⟨r,0,none⟩) tks.length tc,.int .i64 0,.map (some k.heap.size),.int .i64 0,.int .i64 0] 98)):=zb _ _
  have M:(o.alloc (.cells #[.slice (some ⟨r,0,none⟩) tks.length tc,.int .i64 0,.map (some k.heap.size),.int .i64 0,.int .i64 0] 98)).heap[o.heap.size]?=some (.cells #[.slice (some ⟨r,0,none⟩) tks.length tc,.int .i64 0,.map (some k.heap.size),.int .i64 0,.int .i64 0] 98 (0,0)):=zl _ _
  have e9:o.heap.size<(o.alloc (.cells #[.slice (some ⟨r,0,none⟩) tks.length tc,.int .i64 0,.map (some k.heap.size),.int .i64 0,.int .i64 0] 98)).heap.size:=by simp
  generalize o.alloc (.cells #[.slice (some ⟨r,0,none⟩) tks.length tc,.int .i64 0,.map (some k.heap.size),.int .i64 0,.int .i64 0] 98)=w5 at b0 M e9 ⊢
  have a0:Below k.heap.size k w5:=c6.trans (b0.mono c6.size)
  have a7:Below w1.heap.size w1 w5:=U.trans (a0.mono e4)
  have f0:St w5 ⟨o.heap.size,r,k.heap.size,tc⟩ tks tks 0 0:=by
   refine⟨(za M).trans rfl,(za M).trans (by simp),(za M).trans rfl,(za M).trans rfl,(za M).trans rfl,fun j=>zi M,(b0.block _ d5).trans e8,fun i t hi=>?_,by simp,d3,by omega,d9.out,⟨by show r<o.heap.size;omega,d5⟩,fun t F hk c hc=>((d7 t F).k2 hk).2 c hc,fun t F=>?_,e0.below a7 (by omega),by show 4<o.heap.size;omega⟩
   ·have:=t3 i t hi
    exact⟨(a0.cell (p:=⟨r,_,none⟩) t2).trans this.c0,(a0.cell (p:=⟨r,_,none⟩) t2).trans this.c1,(a0.cell (p:=⟨r,_,none⟩) t2).trans this.c2⟩
   ·have:=Tp.scan_tl _ _ _ _ _ a9.out t F
    omega
  have d4:Tp.module (20*tks.length+20) tks≠.error (99,0):=Tp.module_ne d7.gd (by omega)
  have b5:=uo (f:=20*tks.length+20) (by omega) f0 d4
  generalize b8:Tp.module (20*tks.length+20) tks=res at b5
  have HP:Hid (Tp.parse l=res):=by
   show _=_
   unfold Tp.parse
   rw[a9.out]
   exact b8
  clear b8 d4
  refine b5.mono ?_
  intro e n N
  have d2:a+2<=w5.heap.size:=by omega
  have d1:a+2<=o.heap.size:=by omega
  rcases res with s|m
  ·obtain⟨F,R⟩:=N
   obtain⟨d,q1,rfl,q2,q3⟩:=F.out
   have L:Below (a+2) w1 n:=(a7.mono S).trans (R.toBelow d1 d2)
   go_wp2_with fail
   obtain⟨c0,z0,ce,ze⟩:=c4.out n L
   refine leaves_cons (f:=35) (args:=#[.pointer (some ⟨a,0,none⟩),.pointer (some ⟨a+1,0,none⟩)]) (by simp) (by simp[go_sem]) ?_
   refine(kG a (a+1) d [] n c0 z0 ce ze (by omega)).mono ?_
   rintro e u' a6⟨rfl,rfl,Z⟩
   have K:=b6.out n s d L (by omega) q2 q3 HP.out
   obtain⟨u,k2⟩:=c5.out n d L
   have X:a6=late n a (a+1) d:=Z
   rw[<-X]at K u k2
   simp only[m0]at u K
   clear Z X
   simp[Leaves,settle,results,Tryz.results20,go_sem,u,k2]
   exact K
  ·obtain⟨v,rfl,hv,R⟩:=N
   have L:Below (a+2) w1 n:=(a7.mono S).trans (R.toBelow d1 d2)
   have P:=(L.block a (by omega)).trans W
   have Q:=(L.block (a+1) (by omega)).trans V
   obtain⟨G,C,I,A,H,D,J,B,f2,e6,f1,d6⟩:=hv
   have e5:Hid (VM w5.heap.size m (.agg (mcells (bs m.name) (.slice G m.imports.length H) (.slice C m.vars.length D) (.slice I m.procs.length J) (.slice A m.body.length B))) n):=⟨G,C,I,A,H,D,J,B,f2,e6,rfl,d6⟩
   subst f1
   clear d6
   simp only[mcells]
   have y:∀i,n.cell? ⟨a,i,none⟩=m0[i]?:=fun i=>za P
   have z:∀i,n.frozen? ⟨a,i,none⟩=false:=fun i=>zi P
   have ye:n.cell? ⟨a+1,0,none⟩=some .nilIface:=(za Q).trans rfl
   have ze:n.frozen? ⟨a+1,0,none⟩=false:=zi Q
   simp only[m0]at y
   go_wp2_with fail
   obtain⟨x,O⟩:∃x,x=(((((n.setCell ⟨a,0,none⟩ (.string (bs m.name))).setCell ⟨a,1,none⟩ (.slice G m.imports.length H)).setCell ⟨a,2,none⟩ (.slice C m.vars.length D)).setCell ⟨a,3,none⟩ (.slice I m.procs.length J)).setCell ⟨a,4,none⟩ (.slice A m.body.length B)).setCell ⟨a+1,0,none⟩ .nilIface:=⟨_,rfl⟩
   have a1:=zy 4 (.slice A m.body.length B) (zy 3 (.slice I m.procs.length J) (zy 2 (.slice C m.vars.length D) (zy 1 (.slice G m.imports.length H) (zy 0 (.string (bs m.name)) P))))
   have R:∀b,b≠a->b≠a+1->x.heap[b]?=n.heap[b]?:=by
    intro b E h2
    rw[O,Below.heap_setCell _ _ _ _ (by simpa using h2),Below.heap_setCell _ _ _ _ (by simpa using E),Below.heap_setCell _ _ _ _ (by simpa using E),Below.heap_setCell _ _ _ _ (by simpa using E),Below.heap_setCell _ _ _ _ (by simpa using E),Below.heap_setCell _ _ _ _ (by simpa using E)]
   have c8:x.heap[a]?=some (.cells (mcells (bs m.name) (.slice G m.imports.length H) (.slice C m.vars.length D) (.slice I m.procs.length J) (.slice A m.body.length B)) 66 (0,0)):=by
    rw[O,Below.heap_setCell _ _ _ _ (by simp)];exact a1
   have e7:x.cell? ⟨a+1,0,none⟩=some .nilIface:=by
    rw[O]
    have b1:(((((n.setCell ⟨a,0,none⟩ (.string (bs m.name))).setCell ⟨a,1,none⟩ (.slice G m.imports.length H)).setCell ⟨a,2,none⟩ (.slice C m.vars.length D)).setCell ⟨a,3,none⟩ (.slice I m.procs.length J)).setCell ⟨a,4,none⟩ (.slice A m.body.length B)).heap[a+1]?=some (.cells #[.nilIface] 33 (0,0)):=by
     rw[Below.heap_setCell _ _ _ _ (by simp),Below.heap_setCell _ _ _ _ (by simp),Below.heap_setCell _ _ _ _ (by simp),Below.heap_setCell _ _ _ _ (by simp),Below.heap_setCell _ _ _ _ (by simp)]
     exact Q
    exact(za (zy 0 .nilIface b1)).trans rfl
   have c7:Below a n x:=by rw[O];exact zu (jm n a _ _ _ _ _) (by simp) 0 _
   have u:∀i,x.cell? ⟨a,i,none⟩=(mcells (bs m.name) (.slice G m.imports.length H) (.slice C m.vars.length D) (.slice I m.procs.length J) (.slice A m.body.length B))[i]?:=fun i=>za c8
   rw[<-O]
   have b7:Below w.heap.size w x/\ParseP w l (.returned (.tuple #[.agg (mcells (bs m.name) (.slice G m.imports.length H) (.slice C m.vars.length D) (.slice I m.procs.length J) (.slice A m.body.length B)),.nilIface])) x:=by
    rw[a2.out]
    refine⟨(c3.out.trans (L.mono (by omega))).trans c7,?_⟩
    unfold ParseP
    rw[HP.out,a2.out]
    exact⟨_,rfl,e5.out.mono (by omega) (fun b E h2=>R b (by omega) (by omega))⟩
   clear O a1 R c8 c7
   simp only[mcells]at u b7
   refine leaves_cons (f:=35) (args:=#[.pointer (some ⟨a,0,none⟩),.pointer (some ⟨a+1,0,none⟩)]) (by simp) (by simp[go_sem]) ?_
   refine(late_idle ⟨a,0,none⟩ ⟨a+1,0,none⟩ x).mono ?_
   rintro e u' a6⟨rfl,rfl,rfl⟩
   simp[Leaves,settle,results,Tryz.results20,go_sem,u,e7]
   exact b7
end Go.Proofs.YtbkndnmglhghlaaGreatDoor

namespace Go.Proofs.YtbkndnmglhghlaaGreatDoor
open Go.RowKit
open Tp (X S G Pr)
variable {B d f j n:Nat}{D:Nat->Prop}{c e i l:Option Addr}{m:Tp.M}{v:Value}{w w':World}
theorem bs_back (l:List UInt8):(bs l).data.toList=l:=by simp[bs]
theorem vO {b:Nat}{a c d e f:Value}{t:TypeId}(h:w.heap[b]?=some (.cells #[a,c,d,e,f] t (0,0))):w.cell? ⟨b,0,none⟩=some a/\w.cell? ⟨b,1,none⟩=some c/\w.cell? ⟨b,2,none⟩=some d/\w.cell? ⟨b,3,none⟩=some e/\w.cell? ⟨b,4,none⟩=some f :=
 ⟨(za h).trans rfl,(za h).trans rfl,(za h).trans rfl,(za h).trans rfl,(za h).trans rfl⟩
theorem uA:∀(l:List G) (i:Nat) (h:i<l.length) (j:Nat),j<4->(gcs l)[i*4+j]?=(gcells (bs l[i].name) (l[i].pos:Int) (l[i].len:Int) l[i].seen).toList[j]?:=by
 intro l
 induction l with
 |nil=>intro i h;simp at h
 |cons g l ih =>
  intro i h j a
  have e:gcs (g :: l)=(gcells (bs g.name) (g.pos:Int) (g.len:Int) g.seen).toList++gcs l:=rfl
  rw[e]
  cases i with
  |zero=>rw[Nat.zero_mul,Nat.zero_add,List.getElem?_append_left (by simpa[gcells] using a)];rfl
  |succ i =>
   rw[List.getElem?_append_right (by simp[gcells];omega)]
   have:(i+1)*4+j-(gcells (bs g.name) (g.pos:Int) (g.len:Int) g.seen).toList.length=i*4+j:=by simp[gcells];omega
   rw[this,ih i (by simpa using h) j a]
   rfl
theorem js:∀(l:List Pr) (e:List Value),RepP w D l e->∀(i:Nat) (h:i<l.length),∃(b vv a:Value) (d:List Value),
  (∀j,j<6->e[i*6+j]?=(pcells (bs l[i].name) (l[i].pos:Int) l[i].seen b vv a).toList[j]?)/\Row w D 9 1 b l[i].params.length (strs l[i].params)/\Row w D 9 1 vv l[i].vars.length (strs l[i].vars)/\RepS w D l[i].body d/\OwnS w D a l[i].body.length d:=by
 intro l
 induction l with
 |nil=>intro e _ i h;simp at h
 |cons c l ih =>
  intro e u i h
  obtain⟨b,vv,a,d,cs',o,p,q,r,s,t⟩:=u
  subst o
  cases i with
  |zero =>
   refine⟨b,vv,a,d,fun j f=>?_,p,q,r,s⟩
   rw[Nat.zero_mul,Nat.zero_add,List.getElem?_append_left (by simpa[pcells] using f)]
   rfl
  |succ i =>
   obtain⟨m,n,k,g,v,x⟩:=ih cs' t i (by simpa using h)
   refine⟨m,n,k,g,fun j f=>?_,x⟩
   rw[List.getElem?_append_right (by simp[pcells];omega)]
   have:(i+1)*6+j-(pcells (bs c.name) (c.pos:Int) c.seen b vv a).toList.length=i*6+j:=by simp[pcells];omega
   rw[this,v j f]
   rfl
theorem yI {e size:Nat}{a:List Value}(h:Row w D e size v n a)(d:0<n):∃g cap,v=.slice (some ⟨g,0,none⟩) n cap/\D g/\g<w.heap.size/\∀k,k<n*size->w.cell? ⟨g,k,none⟩=a[k]?:=by
 rcases h with⟨_,b,_⟩|⟨g,cap,cur,h1,b,h3,h4,h5,h6,h7⟩
 ·omega
 ·refine⟨g,cap,h1,b,zc h3,fun k c=>?_⟩
  rw[za h3,<-Array.getElem?_toList,<-h7,List.getElem?_take_of_lt c]
structure MB (w:World) (B:Nat) (m:Tp.M) (ia ga pa ba:Option Addr) (ic gc pc bc:Nat):Prop where
 im:Row w (fun i=>i<B) 9 1 (.slice ia m.imports.length ic) m.imports.length (strs m.imports)
 gl:Row w (fun i=>i<B) 57 4 (.slice ga m.vars.length gc) m.vars.length (gcs m.vars)
 pr:∃pcs,RepP w (fun i=>i<B) m.procs pcs/\Row w (fun i=>i<B) 157 6 (.slice pa m.procs.length pc) m.procs.length pcs
 bd:∃bcs,RepS w (fun i=>i<B) m.body bcs/\OwnS w (fun i=>i<B) (.slice ba m.body.length bc) m.body.length bcs
theorem VM.mb (h:VM B m v w):∃f d i b g e j c,v=.agg (mcells (bs m.name) (.slice f m.imports.length g) (.slice d m.vars.length e) (.slice i m.procs.length j) (.slice b m.body.length c))/\MB w w.heap.size m f d i b g e j c:=by
 obtain⟨f,d,i,b,g,e,j,c,l,k,n,o,p,q,r,s,t⟩:=h
 refine⟨f,d,i,b,g,e,j,c,n,⟨o.mono fun _ _ a=>⟨rfl,a⟩,p.mono fun _ _ a=>⟨rfl,a⟩,⟨l,q.mono (fun _ _ a=>⟨rfl,a⟩) _ _,r.mono fun _ _ a=>⟨rfl,a⟩⟩,⟨k,s.mono' fun _ _ a=>⟨rfl,a⟩,t.mono fun _ _ a=>⟨rfl,a⟩⟩⟩⟩
theorem MB.on (h:MB w B m i e l c j f n d)(k:Below B w w'):MB w' B m i e l c j f n d:=by
 have a:∀b,b<B->b<w.heap.size->w'.heap[b]?=w.heap[b]?/\b<B:=fun b g _=>⟨k.block b g,g⟩
 obtain⟨p,r,s⟩:=h.pr
 obtain⟨o,q,b2⟩:=h.bd
 exact⟨h.im.mono a,h.gl.mono a,⟨p,r.mono a _ _,s.mono a⟩,⟨o,q.mono' a,b2.mono a⟩⟩
theorem MB.up (h:MB w w.heap.size m i e l c j f n d)(k:Below w.heap.size w w'):MB w' w'.heap.size m i e l c j f n d:=by
 have a:∀b,b<w.heap.size->b<w.heap.size->w'.heap[b]?=w.heap[b]?/\b<w'.heap.size:=fun b g _=>⟨k.block b g,Nat.lt_of_lt_of_le g k.size⟩
 obtain⟨p,r,s⟩:=h.pr
 obtain⟨o,q,b2⟩:=h.bd
 exact⟨h.im.mono a,h.gl.mono a,⟨p,r.mono a _ _,s.mono a⟩,⟨o,q.mono' a,b2.mono a⟩⟩
end Go.Proofs.YtbkndnmglhghlaaGreatDoor
