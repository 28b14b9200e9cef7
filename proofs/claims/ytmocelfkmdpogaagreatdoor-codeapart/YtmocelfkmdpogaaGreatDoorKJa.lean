import Derived.Test.YtmocelfkmdpogaaGreatDoorRows
import Derived.WalkKit
import Derived.WalkSpells
import Derived.WalkLawsBesides
import Derived.RegionTactic
import Derived.ChangeAlike
import Derived.BigRegion
import Derived.ArgAppend
import Derived.Lib.AppendStr
import Derived.Lib.Hide
import Derived.Deep.RegionWith
import Derived.RegionDies
import Derived.Deep.DeepCutAuto
import Derived.Deep.LoopGhost
import Derived.Deep.RegionHeld3
import Derived.Deep.QuietTactic
import Derived.BigQuiet
import Derived.Laws.Bits64b
import Derived.Laws.BitsAllLaws
import Derived.Laws.DeepNot64
set_option maxRecDepth 100000
set_option maxHeartbeats 4000000
namespace Ob
abbrev Bs:=List UInt8
def vb (u:Nat):Bs:=if u<128 then [UInt8.ofNat u] else UInt8.ofNat (u % 128+128) :: vb (u / 128)
def zig (n:Int):Nat:=if n<0 then (-2 * n - 1).toNat else (2 * n).toNat
def zag (u:Nat):Int:=if u % 2=1 then -(u / 2:Nat) - 1 else (u / 2:Nat)
def num (n:Int):Bs:=vb (zig n)
def txt (s:Bs):Bs:=num s.length++s
def I64 (n:Int):Prop:=-9223372036854775808<=n/\n<=9223372036854775807
theorem zag_zig (n:Int):zag (zig n)=n:=by unfold zag zig;split <;> split <;> omega
theorem zig_lt {n:Int}(h:I64 n):zig n<18446744073709551616:=by unfold I64 at h;unfold zig;split <;> omega
def orS (u b bits:Nat):Nat:=u ||| ((b % 128) <<< bits) % 18446744073709551616
def nu (u bits:Nat):Bs->Option (Nat× Bs)
 | []=>none
 | b :: r=>if b.toNat<128 then some (orS u b.toNat bits,r) else nu (orS u b.toNat bits) (bits+7) r
abbrev Rd (α:Type):=Bs->Option (α× Bs)
def numR:Rd Int:=fun l=>(nu 0 0 l).map fun x=>(zag x.1,x.2)
def takeR (n:Nat):Rd Bs:=fun l=>if n<=l.length then some (l.take n,l.drop n) else none
def manyR (most:Nat):Rd Nat:=fun l=>(numR l).bind fun x=>if 0<=x.1/\x.1<=most then some (x.1.toNat,x.2) else none
def txtR:Rd Bs:=fun l=>(manyR l.length l).bind fun x=>takeR x.1 x.2
def flagR:Rd Bool:=fun l=>(takeR 1 l).map fun x=>(decide (x.1≠[0]),x.2)
def repR {α:Type}(one:Rd α):Nat->Rd (List α)
 | 0=>fun l=>some ([],l)
 | n+1=>fun l=>(one l).bind fun x=>(repR one n x.2).map fun y=>(x.1 :: y.1,y.2)
def listR {α:Type}(most:Nat) (one:Rd α):Rd (List α):=fun l=>(manyR most l).bind fun x=>repR one x.1 x.2
structure Sm where
 name:Bs
 len:Int
 args:Int
structure Us where
 name:Bs
 need:Bs
 names:List Bs
structure Gl where
 name:Bs
 at':Int
 len:Int
 seen:Bool
structure En where
 at':Int
 args:Int
 locals:Int
structure In where
 op:Int
 a:Int
 b:Int
structure O where
 name:Bs
 syms:List Sm
 uses:List Us
 vars:List Gl
 procs:List En
 names:List Bs
 code:List In
def symR:Rd Sm:=fun l=>(txtR l).bind fun x=>(numR x.2).bind fun y=>(numR y.2).map fun z=>(⟨x.1,y.1,z.1⟩,z.2)
def useR:Rd Us:=fun l=>(txtR l).bind fun x=>(txtR x.2).bind fun y=>(listR 100 txtR y.2).map fun z=>(⟨x.1,y.1,z.1⟩,z.2)
def glR:Rd Gl:=fun l=>(txtR l).bind fun x=>(numR x.2).bind fun y=>(flagR y.2).map fun z=>(⟨x.1,0,y.1,z.1⟩,z.2)
def enR:Rd En:=fun l=>(numR l).bind fun x=>(numR x.2).bind fun y=>(numR y.2).map fun z=>(⟨x.1,y.1,z.1⟩,z.2)
def inR:Rd In:=fun l=>(numR l).bind fun x=>(numR x.2).bind fun y=>(numR y.2).map fun z=>(⟨x.1,y.1,z.1⟩,z.2)
def obR:Rd O:=fun l =>
 (txtR l).bind fun n=>(listR 20 symR n.2).bind fun s=>(listR 6 useR s.2).bind fun u=>(listR 10 glR u.2).bind fun v =>
 (listR 10 txtR v.2).bind fun m=>(repR enR m.1.length m.2).bind fun p=>(listR 4000 inR p.2).map fun c=>(⟨n.1,s.1,u.1,v.1,p.1,m.1,c.1⟩,c.2)
def lst {α:Type}(one:α->Bs) (l:List α):Bs:=num l.length++(l.map one).flatten
def smW (s:Sm):Bs:=txt s.name++num s.len++num s.args
def usW (u:Us):Bs:=txt u.name++txt u.need++lst txt u.names
def glW (g:Gl):Bs:=txt g.name++num g.len++[if g.seen then 1 else 0]
def enW (e:En):Bs:=num e.at'++num e.args++num e.locals
def inW (x:In):Bs:=num x.op++num x.a++num x.b
def headW (o:O):Bs:=txt o.name++lst smW o.syms++lst usW o.uses++lst glW o.vars
def codeW (o:O):Bs:=lst txt o.names++(o.procs.map enW).flatten++lst inW o.code
def obW (o:O):Bs:=headW o++codeW o
theorem or_shift {u x bits:Nat}(h:u<2 ^ bits):u ||| x <<< bits=u+x * 2 ^ bits:=by
 rw[Nat.or_comm,<-Nat.shiftLeft_add_eq_or_of_lt h,Nat.shiftLeft_eq,Nat.add_comm]
theorem nu_vb (u:Nat):∀(v bits:Nat) (t:Bs),v<2 ^ bits->v+u * 2 ^ bits<18446744073709551616->nu v bits (vb u++t)=some (v+u * 2 ^ bits,t):=by
 induction u using Nat.strongRecOn with
 | ind u ih =>
  intro v bits t hv hlt
  unfold vb
  by_cases h:u<128
  ·rw[if_pos h]
   have e:(UInt8.ofNat u).toNat=u:=by rw[UInt8.toNat_ofNat'];omega
   simp only [List.cons_append,List.nil_append,nu]
   rw[e,if_pos h]
   unfold orS
   rw[Nat.mod_eq_of_lt h,Nat.shiftLeft_eq,Nat.mod_eq_of_lt (by omega),<-Nat.shiftLeft_eq,or_shift hv];try rw[Nat.shiftLeft_eq]
  ·rw[if_neg h]
   have e:(UInt8.ofNat (u % 128+128)).toNat=u % 128+128:=by rw[UInt8.toNat_ofNat'];omega
   simp only [List.cons_append,nu]
   rw[e,if_neg (by omega)]
   have hsp:u * 2 ^ bits=u % 128 * 2 ^ bits+u / 128 * 2 ^ (bits+7):=by
    rw[Nat.pow_add,<-Nat.mul_assoc,Nat.mul_right_comm,<-Nat.add_mul]
    congr 1
    have:=Nat.div_add_mod u 128
    show u=u % 128+u / 128 * 128
    omega
   have hpos:0<2 ^ bits:=Nat.pow_pos (by omega)
   have hlo:v+u % 128 * 2 ^ bits<2 ^ (bits+7):=by
    rw[Nat.pow_add]
    have h1:u % 128 * 2 ^ bits<=127 * 2 ^ bits:=Nat.mul_le_mul_right _ (by omega)
    omega
   have e2:orS v (u % 128+128) bits=v+u % 128 * 2 ^ bits:=by
    unfold orS
    rw[show (u % 128+128) % 128=u % 128 by omega,Nat.shiftLeft_eq,Nat.mod_eq_of_lt (by omega),<-Nat.shiftLeft_eq,or_shift hv];try rw[Nat.shiftLeft_eq]
   rw[e2,ih (u / 128) (by omega) _ _ _ hlo (by omega)]
   rw[hsp,Nat.add_assoc]
theorem numR_num {n:Int}(h:I64 n) (t:Bs):numR (num n++t)=some (n,t):=by
 unfold numR num
 rw[nu_vb _ 0 0 t (by simp) (by have:=zig_lt h;omega)]
 simp[zag_zig]
theorem uq {n most:Nat}(h:n<=most) (hm:most<=1000000000000) (t:Bs):manyR most (num n++t)=some (n,t):=by
 unfold manyR
 rw[numR_num (by unfold I64;omega)]
 simp
 omega
theorem vO (s t:Bs):takeR s.length (s++t)=some (s,t):=by simp[takeR]
theorem vb_pos (u:Nat):0<(vb u).length:=by unfold vb;split <;> simp
theorem txtR_txt {s:Bs}(t:Bs) (ht:(txt s++t).length<=1000000000000):txtR (txt s++t)=some (s,t):=by
 unfold txtR
 have e:txt s++t=num (s.length:Nat)++(s++t):=by simp[txt]
 rw[e]at ht ⊢
 rw[uq (by simp;omega) ht]
 simp[vO]
theorem flagR_app (b:Bool) (t:Bs):flagR ([if b then 1 else 0]++t)=some (b,t):=by
 unfold flagR
 rw[show (1:Nat)=[if b then (1:UInt8) else 0].length from rfl,vO]
 cases b <;> simp
theorem repR_app {α:Type}{one:Rd α}{w:α->Bs}{B:Nat}(l:List α) (t:Bs) (h:∀ x,x∈l->∀ t,(w x++t).length<=B->one (w x++t)=some (x,t)) (hB:((l.map w).flatten++t).length<=B):repR one l.length ((l.map w).flatten++t)=some (l,t):=by
 induction l with
 | nil=>rfl
 | cons x l ih =>
  simp only [List.map_cons,List.flatten_cons,List.length_cons,repR,List.append_assoc]at hB ⊢
  rw[h x (by simp) _ hB]
  simp only [Option.bind_some]
  rw[ih (fun y hy=>h y (by simp[hy])) (by simp at hB ⊢;omega)]
  rfl
theorem listR_lst {α:Type}{one:Rd α}{w:α->Bs}{most:Nat}(l:List α) (t:Bs) (hm:most<=1000000) (hl:l.length<=most) (h:∀ x,x∈l->∀ t,(w x++t).length<=1000000000000->one (w x++t)=some (x,t)) (hB:(lst w l++t).length<=1000000000000):listR most one (lst w l++t)=some (l,t):=by
 unfold listR lst at *
 rw[List.append_assoc]at hB ⊢
 rw[uq hl (by omega)]
 simp only [Option.bind_some]
 exact repR_app l t h (by simp at hB ⊢;omega)
def good (i:Nat) (c:UInt8):Bool:=(decide (97<=c.toNat) && decide (c.toNat<=122)) || ((decide (48<=c.toNat) && decide (c.toNat<=57)) && !decide (i=0))
def nameB (s:Bs):Bool:=decide (∀ i (h:i<s.length),good i s[i]=true) && (decide (1<=s.length) && decide (s.length<=10))
def lenB (n:Int):Bool:=decide (0<=n) && decide (n<=30)
def countsB (n:Int) (many:Nat):Bool:=decide (0<=n) && decide (n<(many:Int))
def allB {α:Type}(p:α->Bool) (most:Nat) (l:List α):Bool:=decide (l.length<=most) && !(l.any fun x=>!p x)
def symB (s:Sm):Bool:=nameB s.name && (decide (-1<=s.args) && (decide (s.args<=10) && (lenB s.len && (decide (s.args<0) || decide (s.len=0)))))
def useB (u:Us):Bool:=nameB u.name && (decide (u.need.length<=4000) && allB nameB 100 u.names)
def otherB (nm:Bs) (u:Us):Bool:=decide (u.name≠nm) && useB u
def varB (g:Gl):Bool:=nameB g.name && (decide (g.at'=0) && lenB g.len)
def headB (o:O):Bool:=nameB o.name && (allB symB 20 o.syms && (allB (otherB o.name) 6 o.uses && allB varB 10 o.vars))
def entB (n:Nat) (e:En):Bool:=countsB e.at' n && (decide (0<=e.args) && (decide (e.args<=e.locals) && decide (e.locals<=10)))
def procsB (o:O):Bool:=allB (entB o.code.length) 10 o.procs && (decide (o.names.length=o.procs.length) && allB nameB 10 o.names)
def choices (o:O) (op:Int):Nat :=
 if op=3\/op=4 then 10 else if op=6\/op=8 then o.vars.length else if op=9 then 11 else if op=12\/op=13 then o.code.length
 else if op=2\/op=10\/op=11\/op=15\/op=16\/op=17 then 1 else 0
def reachB (o:O) (x:In) (own:Nat):Bool:=if x.b=-1 then countsB x.a own else countsB x.b o.uses.length && countsB x.a ((o.uses[x.b.toNat]?.map fun u=>u.names.length).getD 0)
def instB (o:O) (x:In):Bool :=
 if x.op=5\/x.op=7 then reachB o x o.vars.length else if x.op=14 then reachB o x o.procs.length else if x.op=1 then decide (x.b=0) else decide (x.b=0) && countsB x.a (choices o x.op)
def lastB (o:O):Bool:=match o.code.getLast? with
 | none=>false
 | some x=>decide (x.op=12) || (decide (x.op=15) || decide (x.op=17))
def codeB (o:O):Bool:=allB (instB o) 4000 o.code && lastB o
def rightB (o:O):Bool:=headB o && (procsB o && codeB o)
theorem allB_le {α:Type}{p:α->Bool}{most:Nat}{l:List α}(h:allB p most l=true):l.length<=most/\∀ x∈l,p x=true:=by
 unfold allB at h
 simp only [Bool.and_eq_true,decide_eq_true_eq,Bool.not_eq_true',List.any_eq_false]at h
 exact⟨h.1,fun x hx=>by have:=h.2 x hx;simpa using this⟩
theorem nameB_len {s:Bs}(h:nameB s=true):s.length<=10:=by
 unfold nameB at h
 simp only [Bool.and_eq_true,decide_eq_true_eq]at h
 exact h.2.2
theorem choices_le (o:O) (op:Int) (h1:o.vars.length<=10) (h2:o.code.length<=4000):choices o op<=4000:=by
 unfold choices
 repeat (split;omega)
 omega
theorem choices_op {o:O}{op:Int}(h:0<choices o op):1<=op/\op<=17:=by
 unfold choices at h
 split at h
 ·omega
 ·split at h
  ·omega
  ·split at h
   ·omega
   ·split at h
    ·omega
    ·split at h
     ·omega
     ·omega
theorem instB_rng {o:O}{x:In}(hu:o.uses.length<=6) (ha:I64 x.a) (h:instB o x=true):I64 x.op/\I64 x.a/\I64 x.b:=by
 have hb:I64 x.op/\I64 x.b:=by
  unfold instB at h
  have hr:∀ own,reachB o x own=true->I64 x.b:=by
   intro own h
   unfold reachB at h
   split at h
   ·unfold I64;omega
   ·simp only [Bool.and_eq_true,countsB,decide_eq_true_eq]at h
    unfold I64;omega
  split at h
  ·exact⟨by unfold I64;omega,hr _ h⟩
  ·split at h
   ·exact⟨by unfold I64;omega,hr _ h⟩
   ·split at h
    ·simp only [decide_eq_true_eq]at h
     exact⟨by unfold I64;omega,by unfold I64;omega⟩
    ·simp only [Bool.and_eq_true,countsB,decide_eq_true_eq]at h
     have:=choices_op (o:=o) (op:=x.op) (by omega)
     exact⟨by unfold I64;omega,by unfold I64;omega⟩
 exact⟨hb.1,ha,hb.2⟩
theorem nu_lt:∀(l:Bs) (u bits:Nat),u<18446744073709551616->∀ x r,nu u bits l=some (x,r)->x<18446744073709551616:=by
 intro l
 induction l with
 | nil=>intro u bits _ x r h;simp[nu]at h
 | cons b l ih =>
  intro u bits hu x r h
  have ho:orS u b.toNat bits<18446744073709551616:=Nat.or_lt_two_pow (n:=64) hu (Nat.mod_lt _ (by omega))
  simp only [nu]at h
  split at h
  ·simp at h;omega
  ·exact ih _ _ ho x r h
theorem numR_rng {l r:Bs}{n:Int}(h:numR l=some (n,r)):I64 n:=by
 unfold numR at h
 rcases hn:nu 0 0 l with _|⟨x,y⟩
 ·rw[hn]at h;simp at h
 ·rw[hn]at h
  simp at h
  have:=nu_lt l 0 0 (by omega) x y hn
  rw[<-h.1]
  unfold zag I64
  split <;> omega
end Ob
namespace Go.Proofs.YtmocelfkmdpogaaGreatDoor.Jo
open Go.RowKit
open Ob (Bs)
def bs (l:List UInt8):ByteArray:=⟨l.toArray⟩
theorem zy (l:List UInt8):(bs l).toList=l:=by
 rw[ByteArray.toList_eq];simp[bs]
theorem yn (l:List UInt8):(bs l).size=l.length:=by simp[bs,ByteArray.size]
theorem bs_inj {a b:List UInt8}(h:bs a=bs b):a=b:=by have:=congrArg ByteArray.toList h;rwa [zy,zy]at this
structure Ext (b:Nat) (w w':World):Prop where
 os:w'.os=w.os
 tape:w'.tape=w.tape
 output:w'.output=w.output
 size:w.heap.size<=w'.heap.size
 block:∀ k,k<w.heap.size->k≠b->w'.heap[k]?=w.heap[k]?
theorem Ext.refl (b:Nat) (w:World):Ext b w w:=⟨rfl,rfl,rfl,Nat.le_refl _,fun _ _ _=>rfl⟩
theorem Ext.trans {b:Nat}{w1 w2 w3:World}(h:Ext b w1 w2) (k:Ext b w2 w3):Ext b w1 w3 :=
 ⟨k.os.trans h.os,k.tape.trans h.tape,k.output.trans h.output,Nat.le_trans h.size k.size,fun i hi hb=>(k.block i (Nat.lt_of_lt_of_le hi h.size) hb).trans (h.block i hi hb)⟩
theorem Ext.below {b:Nat}{w w':World}(h:Below w.heap.size w w'):Ext b w w':=⟨h.os,h.tape,h.output,h.size,fun k hk _=>h.block k hk⟩
theorem Ext.set {b:Nat}{w w':World}(h:Ext b w w') (j:Nat) (u:Value):Ext b w (w'.setCell ⟨b,j,none⟩ u) :=
 ⟨h.os,h.tape,h.output,by simpa using h.size,fun k hk hb=>by rw[Below.heap_setCell _ _ _ _ (by simpa using hb)];exact h.block k hk hb⟩
theorem Ext.cell {b:Nat}{w w':World}(h:Ext b w w') {a:Addr}{v:Value}(hc:w.cell? a=some v) (hb:a.block≠b):w'.cell? a=some v:=by
 rw[World.cell?_of_block (w:=w) (h.block a.block (World.block_lt_of_cell? _ _ hc) hb)];exact hc
theorem Ext.toBelow {b B:Nat}{w w':World}(h:Ext b w w') (hb:B<=b) (hB:B<=w.heap.size):Below B w w':=⟨h.os,h.tape,h.output,h.size,fun k hk=>h.block k (by omega) (by omega)⟩
theorem zc {w:World}{b j:Nat}{v:Value}(h:w.cell? ⟨b,j,none⟩=some v):b<w.heap.size:=World.block_lt_of_cell? _ _ h
theorem za {w:World}{b i:Nat}{cs:Array Value}{t:TypeId}(h:w.heap[b]?=some (.cells cs t (0,0))):w.cell? ⟨b,i,none⟩=cs[i]?:=by
 simp[World.cell?,h]
theorem zg {w:World}{b i:Nat}{cs:Array Value}{t:TypeId}(h:w.heap[b]?=some (.cells cs t (0,0))):w.frozen? ⟨b,i,none⟩=false:=by
 simp[World.frozen?,h]
theorem zw {w:World}{b:Nat}{cs:Array Value}{t:TypeId}(i:Nat) (v:Value) (h:w.heap[b]?=some (.cells cs t (0,0))):(w.setCell ⟨b,i,none⟩ v).heap[b]?=some (.cells (cs.setIfInBounds i v) t (0,0)):=by
 exact heap_setCell_same w b i cs t v h
theorem zi {w:World}{b:Nat}{ob:Obj}(h:w.heap[b]?=some ob):b<w.heap.size:=by rw[Array.getElem?_eq_some_iff]at h;exact h.1
theorem zk (w:World) (ob:Obj):(w.alloc ob).heap[w.heap.size]?=some ob:=by show (w.heap.push _)[w.heap.size]?=_;simp
theorem zq {B b:Nat}{w w':World}(h:Below B w w') (hb:B<=b) (i:Nat) (v:Value):Below B w (w'.setCell ⟨b,i,none⟩ v):=h.setCell hb v
theorem zl {w:World}{base e size n:Nat}{v:Value}{xs:List Value}(h:w.ownsRow base e size v n xs):∃ ao cap,v=.slice ao n cap:=by
 rcases h.2 with⟨rfl,rfl⟩|⟨g,cap,cur,rfl,_⟩
 ·exact⟨_,_,rfl⟩
 ·exact⟨_,_,rfl⟩
theorem zF {w w':World}{base e size n:Nat}{v:Value}{xs:List Value}(h:w.ownsRow base e size v n xs) (hk:∀ b,base<=b->b<w.heap.size->v.ownBlock=some b->w'.heap[b]?=w.heap[b]?):w'.ownsRow base e size v n xs:=by
 refine⟨h.1,?_⟩
 rcases h.2 with q|⟨g,cap,cur,rfl,q1,q2,q3⟩
 ·exact Or.inl q
 ·exact Or.inr ⟨g,cap,cur,rfl,q1,(hk g q1 (zi q2) rfl).trans q2,q3⟩
theorem zA {w w':World}{base e size n b:Nat}{v:Value}{xs:List Value}(h:w.ownsRow base e size v n xs) (k:Ext b w w') (hb:b<base):w'.ownsRow base e size v n xs :=
 zF h (fun i h1 h2 _=>k.block i h2 (by omega))
theorem yj {w w':World}{base e size n:Nat}{v:Value}{xs:List Value}(h:w.ownsRow base e size v n xs) (k:Below w.heap.size w w'):w'.ownsRow base e size v n xs :=
 zF h (fun i _ h2 _=>k.block i h2)
theorem zL {w:World}{base e size n:Nat}{v:Value}{xs:List Value}(h:w.ownsRow base e size v n xs):∀ g,v.ownBlock=some g->base<=g:=by
 intro g hg
 rcases h.2 with⟨rfl,rfl⟩|⟨g',cap,cur,rfl,h2,_⟩
 ·simp[Value.ownBlock]at hg
 ·simp[Value.ownBlock]at hg;omega
theorem owns_lt {w:World}{base e size n:Nat}{v:Value}{xs:List Value}(h:w.ownsRow base e size v n xs):∀ g,v.ownBlock=some g->g<w.heap.size:=by
 intro g hg
 rcases h.2 with⟨rfl,rfl⟩|⟨g',cap,cur,rfl,h2,h3,_⟩
 ·simp[Value.ownBlock]at hg
 ·simp[Value.ownBlock]at hg;rw[<-hg];exact zi h3
theorem Ext.trans' {w w1 w2:World}{b:Nat}(h:Ext b w w1) (hb:Below w.heap.size w1 w2):Ext b w w2 :=
 ⟨hb.os.trans h.os,hb.tape.trans h.tape,hb.output.trans h.output,Nat.le_trans h.size hb.size,fun i hi hne=>(hb.block i hi).trans (h.block i hi hne)⟩
def strs (l:List (List UInt8)):List Value:=l.map fun s=>.string (bs s)
theorem yg {P:Program}(w:World) (base:Nat) (t ty e:TypeId) (i:TypeInfo) (z:Value) (size bytes:Nat) (ht:P.underlying t=some (.slice e)) (hi:P.info? e=some i) (hz:i.zero=some z)
  (hsize:i.size=size) (hby:i.bytes=bytes) (hzs:z.cells.size=size) (hsz:0<size)
  (v:Value) (n:Nat) (xs:List Value) (hown:w.ownsRow base e size v n xs)
  (a:Addr) (m c:Nat) (news:List Value) (hl:news.length=m * size) (hnews:∀ j u,news[j]?=some u->w.cell? (a.add j)=some u) (h1:∀ u∈news,u.oneCell'=true)
  (h63:n+m<=maxLen) (hbytes:(n+m) * bytes<=140737488355328) (hbase:base<=w.heap.size) :
  ∃ v' w',(Builtin.append_ #[t,t] ty #[v,.slice (some a) m c]).run P w=.ok v' w'/\w'.ownsRow base e size v' (n+m) (xs++news)/\w.grownBy w' v.ownBlock /\
   (∀ g,v'.ownBlock=some g->v.ownBlock=some g\/w.heap.size<=g):=by
 obtain⟨v',w',r1,r2,r3,_⟩:=run_append_own (P:=P) w base t ty e i z size bytes ht hi hz hsize hby hzs hsz v n xs hown a m c news hl hnews h1 h63 hbytes hbase
 refine⟨v',w',r1,r2,r3,?_⟩
 rcases hown.2 with⟨rfl,rfl⟩|⟨g,cap,cur,rfl,q1,q2,q3,q4,q5,q6⟩
 ·have hx:xs=[]:=List.eq_nil_of_length_eq_zero (by simpa using hown.1)
  subst hx
  obtain⟨v2,w2,s1,s2,_⟩:=run_append_own (P:=P) w w.heap.size t ty e i z size bytes ht hi hz hsize hby hzs hsz (.slice none 0 0) 0 [] (World.ownsRow_nil _ _ _ _) a m c news hl hnews h1 h63 hbytes (Nat.le_refl _)
  rw[r1]at s1
  cases s1
  intro g hg
  exact Or.inr (zL s2 g hg)
 ·have hcell:∀ j,j<cap * size->w.cell? ⟨g,j,none⟩=cur[j]?:=fun j _=>za q2
  by_cases hroom:n+m<=cap
  ·have hle:n * size+news.length<=cap * size:=by rw[hl,<-Nat.add_mul];exact Nat.mul_le_mul_right _ hroom
   have s1:=run_append_room_cells (P:=P) w t ty e i ht hi g 0 n cap a m c news (by rw[hsize];exact hl) hnews h1 hroom
    (fun j hj=>by rw[hsize,za q2,Nat.zero_add,Array.getElem?_eq_getElem (by omega)];rfl) (fun j hj=>zg q2)
   rw[r1]at s1
   cases s1
   intro g' hg
   exact Or.inl hg
  ·obtain⟨v2,w2,s1,s2,_⟩:=run_append_arg_grows (P:=P) w t ty e i z size bytes ht hi hz hsize hby hzs hsz ⟨g,0,none⟩ n cap xs hown.1
    (fun j u hj=>by
     have hjl:j<xs.length:=by rw[List.getElem?_eq_some_iff]at hj;exact hj.1
     rw[Addr.add_lit,za q2,Nat.zero_add,<-Array.getElem?_toList,<-hj,<-q6,List.getElem?_take_of_lt (by rw[<-hown.1];exact hjl)])
    a m c news hl hnews (by omega) h63 hbytes
   rw[r1]at s1
   cases s1
   intro g' hg
   exact Or.inr (zL s2 g' hg)
theorem zC {P:Program}(w:World) {ops:Array Oper}{rest:List Oper}{o:Oper}{a:Act}{Q:Exit->Act->World->Prop}(hgd:o.guard=none) (s x:Operand) (t:TypeId)
  (ho:o.op=.call { callee:=.builtin .append,args:=#[s,x],argTypes:=#[t,t] })
  (base:Nat) (e:TypeId) (i:TypeInfo) (z:Value) (size bytes:Nat) (ht:P.underlying t=some (.slice e)) (hi:P.info? e=some i) (hz:i.zero=some z)
  (hsize:i.size=size) (hby:i.bytes=bytes) (hzs:z.cells.size=size) (hsz:0<size)
  (v:Value) (n:Nat) (xs:List Value) (hs:a.eval s=v) (hown:w.ownsRow base e size v n xs)
  (ad:Addr) (m c:Nat) (news:List Value) (hx:a.eval x=.slice (some ad) m c) (hl:news.length=m * size) (hnews:∀ j u,news[j]?=some u->w.cell? (ad.add j)=some u) (h1:∀ u∈news,u.oneCell'=true)
  (h63:n+m<=maxLen) (hbytes:(n+m) * bytes<=140737488355328) (hbase:base<=w.heap.size)
  (h:∀ v' w',w'.ownsRow base e size v' (n+m) (xs++news)->w.grownBy w' v.ownBlock->(∀ g,v'.ownBlock=some g->v.ownBlock=some g\/w.heap.size<=g)->wpList P ops Q rest (a.put o.dst v') w'):wpList P ops Q (o :: rest) a w:=by
 refine wpList_plain hgd fun K hK=>?_
 obtain⟨v',w',r1,r2,r3,r4⟩:=yg (P:=P) w base t o.type e i z size bytes ht hi hz hsize hby hzs hsz v n xs hown ad m c news hl hnews h1 h63 hbytes hbase
 unfold Oper.wp
 simp[execOp,ho,resolve,invoke,builtin,hs,hx,r1,Result.andThen]
 exact hK _ _ (h v' w' r2 r3 r4)
structure Exact (v v':Value) (w w':World):Prop where
 size:w.heap.size<=w'.heap.size
 block:∀ k,k<w.heap.size->v.ownBlock≠some k->w'.heap[k]?=w.heap[k]?
 lies:∀ g,v'.ownBlock=some g->v.ownBlock=some g\/w.heap.size<=g
theorem Exact.of {v v':Value}{w w':World}(h:w.grownBy w' v.ownBlock) (hw:∀ g,v'.ownBlock=some g->v.ownBlock=some g\/w.heap.size<=g):Exact v v' w w' :=
 ⟨h.size,fun k hk hn=>h.block k hk (fun e=>hn e.symm),hw⟩
theorem Exact.ahead {v v':Value}{w w1 w':World}(h:Below w.heap.size w w1) (k:Exact v v' w1 w'):Exact v v' w w' :=
 ⟨Nat.le_trans h.size k.size,fun i hi hn=>(k.block i (Nat.lt_of_lt_of_le hi h.size) hn).trans (h.block i hi),fun g hg=>(k.lies g hg).imp id (Nat.le_trans h.size)⟩
theorem yd {P:Program}(w:World) (base:Nat) (t u ty e:TypeId) (i:TypeInfo) (ht:P.underlying t=some (.slice e)) (hu:P.underlying u=some .string) (hi:P.info? e=some i) (hz:i.zero=some (.int .u8 0))
  (hsize:i.size=1) (hby:i.bytes=1) (v:Value) (n:Nat) (xs:List Value) (hown:w.ownsRow base e 1 v n xs) (s:ByteArray)
  (h63:n+s.size<=maxLen) (hbytes:n+s.size<=140737488355328) (hbase:base<=w.heap.size) :
  ∃ v' w',(Builtin.append_ #[t,u] ty #[v,.string s]).run P w=.ok v' w'/\w'.ownsRow base e 1 v' (n+s.size) (xs++Lib.strCells s)/\w.grownBy w' v.ownBlock/\Exact v v' w w':=by
 obtain⟨v',w',r1,r2,r3,_⟩:=Lib.run_append_own_string (P:=P) w base t u ty e i ht hu hi hz hsize hby v n xs hown s h63 hbytes hbase
 refine⟨v',w',r1,r2,r3,Exact.of r3 ?_⟩
 rcases hown.2 with⟨rfl,rfl⟩|⟨g,cap,cur,rfl,q1,q2,q3,q4,q5,q6⟩
 ·have hx:xs=[]:=List.eq_nil_of_length_eq_zero (by simpa using hown.1)
  subst hx
  obtain⟨v2,w2,s1,s2,_⟩:=Lib.run_append_own_string (P:=P) w w.heap.size t u ty e i ht hu hi hz hsize hby (.slice none 0 0) 0 [] (World.ownsRow_nil _ _ _ _) s h63 hbytes (Nat.le_refl _)
  rw[r1]at s1
  cases s1
  intro g hg
  exact Or.inr (zL s2 g hg)
 ·by_cases hroom:n+s.size<=cap
  ·have s1:=Lib.run_append_room_string (P:=P) w t u ty e i ht hu hi hsize g n cap cur q2 s hroom (by omega)
   rw[r1]at s1
   cases s1
   intro g' hg
   exact Or.inl hg
  ·have s1:=Lib.run_append_grow_string (P:=P) w t u ty e i (.int .u8 0) ht hu hi hz ⟨g,0,none⟩ n cap xs (by rw[hsize];exact hown.1) (hown.cells (g:=g) rfl) s (by omega) (by unfold maxLen at h63;omega) (by rw[hby];exact growslice_fits (by omega) (by omega))
   rw[r1]at s1
   cases s1
   intro g' hg
   simp[Value.ownBlock]at hg
   exact Or.inr (by omega)
theorem zW {P:Program}(w:World) {ops:Array Oper}{rest:List Oper}{o:Oper}{a:Act}{Q:Exit->Act->World->Prop}(hgd:o.guard=none) (sl x:Operand) (t u:TypeId)
  (ho:o.op=.call { callee:=.builtin .append,args:=#[sl,x],argTypes:=#[t,u] })
  (base:Nat) (e:TypeId) (i:TypeInfo) (ht:P.underlying t=some (.slice e)) (hu:P.underlying u=some .string) (hi:P.info? e=some i) (hz:i.zero=some (.int .u8 0))
  (hsize:i.size=1) (hby:i.bytes=1)
  (v:Value) (n:Nat) (xs:List Value) (hs:a.eval sl=v) (hown:w.ownsRow base e 1 v n xs) (s:ByteArray) (hx:a.eval x=.string s)
  (h63:n+s.size<=maxLen) (hbytes:n+s.size<=140737488355328) (hbase:base<=w.heap.size)
  (h:∀ v' w',w'.ownsRow base e 1 v' (n+s.size) (xs++Lib.strCells s)->w.grownBy w' v.ownBlock->Exact v v' w w'->wpList P ops Q rest (a.put o.dst v') w'):wpList P ops Q (o :: rest) a w:=by
 refine wpList_plain hgd fun K hK=>?_
 obtain⟨v',w',r1,r2,r3,r4⟩:=yd (P:=P) w base t u o.type e i ht hu hi hz hsize hby v n xs hown s h63 hbytes hbase
 unfold Oper.wp
 simp[execOp,ho,resolve,invoke,builtin,hs,hx,r1,Result.andThen]
 exact hK _ _ (h v' w' r2 r3 r4)
structure Rst (w:World) (rb:Nat) (l:Bs):Prop where
 c:w.cell? ⟨rb,0,none⟩=some (.string (bs l))
 fz:w.frozen? ⟨rb,0,none⟩=false
 n:l.length<=1000000000
def thrown:Ending:=.panicked [{ v:=.iface 97 (.int .i64 3),recovered:=false }]
def Rp {α:Type}(rb:Nat) (w:World) (val:α->Value->World->Prop) (res:Option (α× Bs)) (e:Ending) (w':World):Prop :=
 match res with
 | some (x,r)=>∃ v,e=.returned v/\val x v w'/\Rst w' rb r/\Ext rb w w'
 | none=>e=thrown/\Ext rb w w'
theorem zH {w:World}{rb:Nat}{l:Bs}(h:Rst w rb l) (n:Nat) (hn:n<=1000000000000) :
  Calls Tryz.prog 182 #[.pointer (some ⟨rb,0,none⟩),.int .i64 (n:Int)] w fun e w'=>Rp rb w (fun s v _=>v=.string (bs s)) (Ob.takeR n l) e w':=by
 have hl:=h.n
 have hc:=h.c
 have hf:=h.fz
 have hs:=yn l
 by_cases hle:n<=l.length
 ·have hle':(n:Int)<=(l.length:Int):=by omega
  have e1:(bs l).extract 0 n=bs (l.take n):=by
   apply ByteArray.ext;simp[bs,ByteArray.data_extract]
  have e2:(bs l).extract n l.length=bs (l.drop n):=by
   apply ByteArray.ext;simp[bs,ByteArray.data_extract];exact List.take_of_length_le (by simp)
  go_enter Tryz.func182,Tryz.ntmps182
  go_wp2_with fail
  go_ret
  unfold Ob.takeR
  rw[if_pos hle]
  exact⟨_,rfl,rfl,⟨World.cell?_setCell_same _ _ _ hc,by simpa using hf,by simp;omega⟩,(Ext.refl _ _).set 0 _⟩
 ·have hle':(l.length:Int)<(n:Int):=by omega
  go_enter Tryz.func182,Tryz.ntmps182
  go_wp2_with fail
  unfold Ob.takeR
  rw[if_neg hle]
  exact⟨rfl,rfl,Ext.refl _ _⟩
theorem and127 (x:Nat) (hx:x<256):Go.bits .and .u8 (x:Int) 127=((x % 128:Nat):Int):=by
 have h:=u8_and_nat x 127 hx (by omega)
 rw[show (127:Nat)=2 ^ 7 - 1 from rfl,Nat.and_two_pow_sub_one_eq_mod]at h
 simpa using h
theorem and1 (x:Nat) (hx:x<18446744073709551616):Go.bits .and .u64 (x:Int) 1=((x % 2:Nat):Int):=by
 have h:=bits_and_u64_nat x 1 hx (by omega)
 rw[show (1:Nat)=2 ^ 1 - 1 from rfl,Nat.and_two_pow_sub_one_eq_mod]at h
 simpa using h
theorem or128 (x:Nat) (hx:x<256):Go.bits .or .u8 (x:Int) 128=((x % 128+128:Nat):Int):=by
 have h:=u8_or_nat x 128 hx (by omega)
 have e:∀ y,y<256->y ||| 128=y % 128+128:=by decide +kernel
 rw[e x hx]at h
 simpa using h
theorem not64 (n:Nat) (h:n<18446744073709551616):Go.bits .xor .u64 18446744073709551615 (n:Int)=((18446744073709551615 - n:Nat):Int):=by
 have h1:(18446744073709551615:Int)=((18446744073709551615:Nat):Int):=rfl
 have h2:Go.bits .xor .u64 18446744073709551615 (n:Int)=IntKind.u64.wrap ((BitVec.ofInt 64 18446744073709551615 ^^^ BitVec.ofInt 64 (n:Int)).toNat:Int):=rfl
 rw[h2,show BitVec.ofInt 64 18446744073709551615=BitVec.allOnes 64 from rfl,BitVec.allOnes_xor,BitVec.toNat_not,BitVec.ofInt_natCast,BitVec.toNat_ofNat,Nat.mod_eq_of_lt (show n<2 ^ 64 by omega),IntKind.wrap_u64]
 omega
theorem shl64 (m bits:Nat):IntKind.u64.wrap ((m:Int) * 2 ^ min bits 64)=(((m <<< bits) % 18446744073709551616:Nat):Int):=by
 rw[IntKind.wrap_u64,Nat.shiftLeft_eq]
 by_cases h:bits<=64
 ·rw[Nat.min_eq_left h]
  simp
 ·rw[Nat.min_eq_right (by omega)]
  have e:2 ^ bits=18446744073709551616 * 2 ^ (bits - 64):=by
   rw[show (18446744073709551616:Nat)=2 ^ 64 from rfl,<-Nat.pow_add];congr 1;omega
  rw[e,Nat.mul_left_comm,Nat.mul_mod_right]
  omega
theorem x6 (b:UInt8) (l:Bs):Ob.takeR 1 (b :: l)=some ([b],l):=by simp[Ob.takeR]
theorem kE {w:World}{rb:Nat}{b:UInt8}{l:Bs}(h:Rst w rb (b :: l)) :
  Calls Tryz.prog 182 #[.pointer (some ⟨rb,0,none⟩),.int .i64 1] w fun e w'=>e=.returned (.string (bs [b]))/\Rst w' rb l/\Ext rb w w':=by
 refine(zH h 1 (by omega)).mono ?_
 intro e w' hq
 rw[x6]at hq
 obtain⟨v,rfl,rfl,h1,h2⟩:=hq
 exact⟨rfl,h1,h2⟩
theorem vP {w:World}{rb:Nat}(h:Rst w rb []) :
  Calls Tryz.prog 182 #[.pointer (some ⟨rb,0,none⟩),.int .i64 1] w fun e w'=>e=thrown/\Ext rb w w':=by
 refine(zH h 1 (by omega)).mono ?_
 intro e w' hq
 exact hq
theorem zag_even (o:Nat) (h:o % 2=0):((o:Int) / 2)=Ob.zag o:=by
 unfold Ob.zag
 rw[if_neg (by omega)]
 omega
theorem zag_odd (o:Nat) (ho:o<18446744073709551616) (h:o % 2=1):Go.bits .xor .i64 (-1) ((o:Int) / 2)=Ob.zag o:=by
 have e:((o:Int) / 2)=((o / 2:Nat):Int):=by omega
 rw[e,i64_not _ (by omega)]
 unfold Ob.zag
 rw[if_pos h]
 omega
theorem yD {w:World}{rb:Nat}{l:Bs}(h:Rst w rb l) :
  Calls Tryz.prog 186 #[.pointer (some ⟨rb,0,none⟩)] w fun e w'=>Rp rb w (fun n v _=>v=.int .i64 n) (Ob.numR l) e w':=by
 have hl:=h.n
 go_enter Tryz.func186,Tryz.ntmps186
 go_wp2_with fail
 go_loopg [3,4] l.length (fun k vu vb wr=>∃(u bits:Nat) (r:Bs),k=r.length/\vu=.int .u64 (u:Int)/\vb=.int .i64 (bits:Int)/\u<18446744073709551616/\bits+7 * r.length<=7000000000/\Ob.nu u bits r=Ob.nu 0 0 l/\Rst wr rb r/\Ext rb w wr)
 case atStart=>exact⟨0,0,l,rfl,rfl,rfl,by omega,by omega,rfl,h,Ext.refl _ _⟩
 case round =>
  obtain⟨u,bits,r,hk,rfl,rfl,hu,hbits,hspec,hst,hext⟩:=hrel
  have HS:=Lib.hid hspec
  clear hspec h
  cases r with
  | nil =>
   go_wp2_with fail
   refine(vP hst).mono ?_
   rintro e w1 ⟨rfl,hx1⟩
   unfold thrown
   go_wp2_with fail
   refine⟨rfl,?_⟩
   unfold Ob.numR
   rw[<-HS.out]
   exact⟨rfl,hext.trans hx1⟩
  | cons b r =>
   have hb:=b.toNat_lt
   have e0:∀ h,(bs [b])[0]'h=b:=fun _=>rfl
   have e1:(bs [b]).size=1:=rfl
   obtain⟨m,hm⟩:∃ m,m=b.toNat % 128:=⟨_,rfl⟩
   have hm1:m<128:=by omega
   have ea:=and127 b.toNat (by omega)
   rw[<-hm]at ea
   have ew:IntKind.u64.wrap (m:Int)=(m:Int):=by rw[IntKind.wrap_u64];omega
   have es:=shl64 m bits
   obtain⟨sh,hsh⟩:∃ sh,sh=(m <<< bits) % 18446744073709551616:=⟨_,rfl⟩
   rw[<-hsh]at es
   have hshl:sh<18446744073709551616:=by omega
   have eo:=bits_or_u64_nat u sh hu hshl
   obtain⟨o,ho⟩:∃ o,o=u ||| sh:=⟨_,rfl⟩
   rw[<-ho]at eo
   have hol:o<18446744073709551616:=by rw[ho];exact Nat.or_lt_two_pow (n:=64) hu hshl
   have HO:Hid (o=Ob.orS u b.toNat bits):=by unfold Ob.orS;rw[<-hm,<-hsh];exact ho
   have HN:Hid (Ob.nu u bits (b :: r)=if b.toNat<128 then some (o,r) else Ob.nu o (bits+7) r):=by rw[HO.out];rfl
   have hbits':bits<=7000000000:=by omega
   have hrl:bits+7+7 * r.length<=7000000000:=by simp at hbits;omega
   have hk':gk=r.length+1:=hk
   clear hm hsh ho hbits hk
   by_cases hlt:b.toNat<128
   ·have hlt':(b.toNat:Int)<128:=by omega
    obtain⟨q,hq⟩:∃ q,q=o % 2:=⟨_,rfl⟩
    have e2:=and1 o hol
    rw[<-hq]at e2
    have HQ:=Lib.hid hq
    have HR:Hid (Ob.numR l=some (Ob.zag o,r)):=by
     unfold Ob.numR
     rw[<-HS.out,HN.out,if_pos hlt];rfl
    clear hq HS HN HO hlt
    by_cases hq1:q=1
    ·have HZ:Hid (Go.bits .xor .i64 (-1) ((o:Int) / 2)=Ob.zag o):=zag_odd o hol (by rw[<-HQ.out];exact hq1)
     subst hq1
     clear HQ
     go_wp2_with fail
     refine(kE hst).mono ?_
     rintro e w1 ⟨rfl,hst1,hx1⟩
     go_wp2_with fail
     go_ret
     rw[HR.out]
     exact⟨_,rfl,congrArg (Value.int .i64) HZ.out,hst1,hext.trans hx1⟩
    ·have hq0:q=0:=by have:=HQ.out;omega
     have HZ:Hid (((o:Int) / 2)=Ob.zag o):=zag_even o (by rw[<-HQ.out];exact hq0)
     subst hq0
     clear HQ hq1
     go_wp2_with fail
     refine(kE hst).mono ?_
     rintro e w1 ⟨rfl,hst1,hx1⟩
     go_wp2_with fail
     go_ret
     rw[HR.out]
     exact⟨_,rfl,congrArg (Value.int .i64) HZ.out,hst1,hext.trans hx1⟩
   ·have hlt':¬(b.toNat:Int)<128:=by omega
    have HR:Hid (Ob.nu o (bits+7) r=Ob.nu 0 0 l):=by rw[<-HS.out];unfold Hid;rw[HN.out,if_neg hlt]
    clear HS HN HO hlt
    go_wp2_with fail
    refine(kE hst).mono ?_
    rintro e w1 ⟨rfl,hst1,hx1⟩
    go_wp2_with fail
    go_roundg r.length
    case measure=>omega
    case rel=>exact⟨o,bits+7,r,rfl,rfl,by go_num,hol,hrl,HR.out,hst1,hext.trans hx1⟩
def VI (n:Int) (v:Value) (_:World):Prop:=v=.int .i64 n
def VN (n:Nat) (v:Value) (_:World):Prop:=v=.int .i64 (n:Int)
def VT (s:Bs) (v:Value) (_:World):Prop:=v=.string (bs s)
def VB (b:Bool) (v:Value) (_:World):Prop:=v=.bool b
theorem numI {w:World}{rb:Nat}{l:Bs}(h:Rst w rb l) :
  Calls Tryz.prog 186 #[.pointer (some ⟨rb,0,none⟩)] w fun e w'=>Rp rb w VI (Ob.numR l) e w':=yD h
theorem je {w:World}{rb:Nat}{l:Bs}(h:Rst w rb l) :
  Calls Tryz.prog 184 #[.pointer (some ⟨rb,0,none⟩)] w fun e w'=>Rp rb w VI (Ob.numR l) e w':=by
 have HC:=Lib.hid (numI h)
 generalize Ob.numR l=res at *
 go_enter Tryz.func184,Tryz.ntmps184
 go_wp2_with fail
 refine HC.out.mono ?_
 intro e w1 hq
 rcases res with _|⟨x,r⟩
 ·obtain⟨rfl,hx⟩:=hq
  unfold thrown
  go_wp2_with fail
  exact⟨rfl,rfl,hx⟩
 ·obtain⟨v,rfl,rfl,hst,hx⟩:=hq
  go_wp2_with fail
  go_ret
  exact⟨_,rfl,rfl,hst,hx⟩
theorem kK {w:World}{rb:Nat}{l:Bs}(h:Rst w rb l) (most:Nat) (hm:most<=1000000000000) :
  Calls Tryz.prog 183 #[.pointer (some ⟨rb,0,none⟩),.int .i64 (most:Int)] w fun e w'=>Rp rb w VN (Ob.manyR most l) e w':=by
 have HC:=Lib.hid (numI h)
 have HM:Hid (Ob.manyR most l=(Ob.numR l).bind fun x=>if 0<=x.1/\x.1<=most then some (x.1.toNat,x.2) else none):=rfl
 generalize Ob.manyR most l=res2 at *
 generalize Ob.numR l=res at *
 have hm':(most:Int)<=1000000000000:=by omega
 go_enter Tryz.func183,Tryz.ntmps183
 go_wp2_with fail
 refine HC.out.mono ?_
 intro e w1 hq
 rcases res with _|⟨x,r⟩
 ·obtain⟨rfl,hx⟩:=hq
  unfold thrown
  go_wp2_with fail
  rw[HM.out]
  exact⟨rfl,rfl,hx⟩
 ·obtain⟨v,rfl,rfl,hst,hx⟩:=hq
  by_cases h0:x<0
  ·have HE:Hid (res2=none):=by rw[HM.out];show (if 0<=x/\x<=(most:Int) then some (x.toNat,r) else none)=none;rw[if_neg (by omega)]
   clear HM
   go_wp2_with fail
   rw[HE.out]
   exact⟨rfl,rfl,hx⟩
  ·by_cases h1:(most:Int)<x
   ·have HE:Hid (res2=none):=by rw[HM.out];show (if 0<=x/\x<=(most:Int) then some (x.toNat,r) else none)=none;rw[if_neg (by omega)]
    clear HM
    go_wp2_with fail
    rw[HE.out]
    exact⟨rfl,rfl,hx⟩
   ·have HE:Hid (res2=some (x.toNat,r)):=by rw[HM.out];show (if 0<=x/\x<=(most:Int) then some (x.toNat,r) else none)=_;rw[if_pos (by omega)]
    have HX:Hid (x=(x.toNat:Int)):=by show _=_;omega
    clear HM
    go_wp2_with fail
    go_ret
    rw[HE.out]
    exact⟨_,rfl,congrArg (Value.int .i64) HX.out,hst,hx⟩
theorem jc {most n:Nat}{l r:Bs}(he:Ob.manyR most l=some (n,r)):n<=most:=by
 unfold Ob.manyR at he
 rcases hn:Ob.numR l with _|⟨x,r'⟩
 ·rw[hn]at he;simp at he
 ·rw[hn]at he
  simp only [Option.bind_some]at he
  by_cases hx:0<=x/\x<=(most:Int)
  ·rw[if_pos hx]at he
   cases he
   show x.toNat<=_
   omega
  ·rw[if_neg hx]at he;cases he
theorem kD {w:World}{rb:Nat}{l:Bs}(h:Rst w rb l) :
  Calls Tryz.prog 134 #[.pointer (some ⟨rb,0,none⟩)] w fun e w'=>Rp rb w VT (Ob.txtR l) e w':=by
 have hl:=h.n
 have hc:=h.c
 have hs:=yn l
 have HC:=Lib.hid (kK h l.length (by omega))
 have HM:Hid (Ob.txtR l=(Ob.manyR l.length l).bind fun x=>Ob.takeR x.1 x.2):=rfl
 have HB:Hid (∀ n r,Ob.manyR l.length l=some (n,r)->n<=l.length):=fun n r he=>jc he
 generalize Ob.txtR l=res2 at *
 generalize Ob.manyR l.length l=res at *
 go_enter Tryz.func134,Tryz.ntmps134
 go_wp2_with fail
 refine HC.out.mono ?_
 intro e w1 hq
 rcases res with _|⟨x,r⟩
 ·obtain⟨rfl,hx⟩:=hq
  unfold thrown
  go_wp2_with fail
  rw[HM.out]
  exact⟨rfl,rfl,hx⟩
 ·obtain⟨v,rfl,rfl,hst,hx⟩:=hq
  have hxl:=HB.out x r rfl
  have HT:=Lib.hid (zH hst x (by omega))
  have HM':Hid (res2=Ob.takeR x r):=HM
  clear HB HC HM hc h
  generalize Ob.takeR x r=res3 at *
  go_wp2_with fail
  refine HT.out.mono ?_
  intro e w2 hq
  rcases res3 with _|⟨y,r2⟩
  ·obtain⟨rfl,hx2⟩:=hq
   unfold thrown
   go_wp2_with fail
   rw[HM'.out]
   exact⟨rfl,rfl,hx.trans hx2⟩
  ·obtain⟨v,rfl,rfl,hst2,hx2⟩:=hq
   go_wp2_with fail
   go_ret
   rw[HM'.out]
   exact⟨_,rfl,rfl,hst2,hx.trans hx2⟩
theorem flag_any {w:World}{rb:Nat}{l:Bs}(h:Rst w rb l) :
  Calls Tryz.prog 185 #[.pointer (some ⟨rb,0,none⟩)] w fun e w'=>Rp rb w VB (Ob.flagR l) e w':=by
 cases l with
 | nil =>
  go_enter Tryz.func185,Tryz.ntmps185
  go_wp2_with fail
  refine(vP h).mono ?_
  rintro e w1 ⟨rfl,hx⟩
  unfold thrown
  go_wp2_with fail
  exact⟨rfl,rfl,hx⟩
 | cons b r =>
  have HF:Hid (Ob.flagR (b :: r)=some (!((bs [b]).toList == [0]),r)):=by
   unfold Ob.flagR
   rw[x6,zy]
   show some (decide ([b]≠[0]),r)=_
   congr 2
   rw[Bool.eq_iff_iff]
   simp
  generalize Ob.flagR (b :: r)=res at *
  go_enter Tryz.func185,Tryz.ntmps185
  go_wp2_with fail
  refine(kE h).mono ?_
  rintro e w1 ⟨rfl,hst,hx⟩
  go_wp2_with fail
  go_ret
  rw[HF.out]
  exact⟨_,rfl,rfl,hst,hx⟩
end Go.Proofs.YtmocelfkmdpogaaGreatDoor.Jo
