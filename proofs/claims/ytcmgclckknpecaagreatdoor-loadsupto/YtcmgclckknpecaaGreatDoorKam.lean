import Derived.Test.YtcmgclckknpecaaGreatDoorKaa
import Derived.Test.YtcmgclckknpecaaGreatDoorProg
import Derived.Shelf.Strconv.Clone
import Derived.WalkKit
import Derived.Test.YtcmgclckknpecaaGreatDoorKah
import Derived.Deep.RegionHeld3
import Derived.Deep.AppendLies
namespace Go.Proofs.YtcmgclckknpecaaGreatDoor
namespace Pl
def byteIn (s:ByteArray) (lo hi a:Nat):Bool:=decide (a<s.size∧lo≤bt s a∧bt s a≤hi)
def thenP (r:Bool × Nat) (k:Nat→Bool × Nat):Bool × Nat:=if r.1=true then k r.2 else (false,r.2)
def sign (s:ByteArray) (c a:Nat):Bool × Nat:=if byteIn s c c a=true then (true,a+1) else (false,a)
def lets (s:ByteArray):Nat→Nat→Nat
 | 0,a=>a
 | m+1,a=>if byteIn s 97 122 a=true then lets s m (a+1) else a
def word (s:ByteArray) (a:Nat):Bool × Nat:=(decide (a<lets s 8 a),lets s 8 a)
def pairP (s:ByteArray) (a:Nat):Bool × Nat:=thenP (word s a) fun b=>thenP (sign s 61 b) (word s)
def lst (s:ByteArray) (item:Nat→Bool × Nat):Nat→Nat→Bool × Nat
 | 0,a=>(false,a)
 | m+1,a=>thenP (item a) fun b=>if byteIn s 44 44 b=true then lst s item m (b+1) else sign s 41 b
def bnds (s:ByteArray) (a:Nat):Bool × Nat :=
 if byteIn s 49 57 a=true then thenP (sign s 44 (a+1)) fun b=>if byteIn s (bt s a) 57 b=true then sign s 41 (b+1) else (false,b) else (false,a)
theorem byteIn_lt {s:ByteArray} {lo hi a:Nat} (h:byteIn s lo hi a=true):a<s.size∧lo≤bt s a∧bt s a≤hi:=of_decide_eq_true h
theorem byteIn_mk {s:ByteArray} {lo hi a:Nat} (h:a<s.size∧lo≤bt s a∧bt s a≤hi):byteIn s lo hi a=true:=decide_eq_true h
theorem byteIn_no {s:ByteArray} {lo hi a:Nat} (h:¬ (a<s.size∧lo≤bt s a∧bt s a≤hi)):byteIn s lo hi a=false:=decide_eq_false h
def Fits (s:ByteArray) (item:Nat→Bool × Nat):Prop:=∀ a,a≤s.size→a≤(item a).2∧(item a).2≤s.size
theorem sign_fits (s:ByteArray) (c:Nat):Fits s (sign s c):=fun a ha=>by
 unfold sign;split
 ·have:=byteIn_lt (by assumption);simp;omega
 ·simp;omega
theorem lets_fits (s:ByteArray):∀ m a,a≤s.size→a≤lets s m a∧lets s m a≤s.size
 | 0,a,h=>⟨Nat.le_refl _,h⟩
 | m+1,a,h=>by
  unfold lets;split
  ·have:=byteIn_lt (by assumption)
   have:=lets_fits s m (a+1) (by omega)
   omega
  ·omega
theorem word_fits (s:ByteArray):Fits s (word s):=fun a ha=>lets_fits s 8 a ha
theorem thenP_fits {s:ByteArray} {r:Bool × Nat} {k:Nat→Bool × Nat} {a:Nat} (h:a≤r.2∧r.2≤s.size) (hk:Fits s k):a≤(thenP r k).2∧(thenP r k).2≤s.size:=by
 unfold thenP;split
 ·have:=hk r.2 h.2;omega
 ·exact h
theorem pair_fits (s:ByteArray):Fits s (pairP s):=fun a ha=>thenP_fits (word_fits s a ha) fun b hb=>thenP_fits (sign_fits s 61 b hb) (word_fits s)
def cm (s:ByteArray) (a:Nat) (w:ByteArray):Nat→Nat→Nat
 | 0,k=>k
 | m+1,k=>if k<w.size∧a+k<s.size∧bt s (a+k)=bt w k then cm s a w m (k+1) else k
def com (s:ByteArray) (a:Nat) (w:ByteArray):Nat:=cm s a w w.size 0
def nm (s:ByteArray) (a:Nat):List ByteArray→Nat→Nat→Option Nat × Nat
 | [],_,lg=>(none,a+lg)
 | w :: r,i,lg=>if com s a w=w.size then (some i,a+w.size) else nm s a r (i+1) (max lg (com s a w))
theorem cm_ge (s:ByteArray) (a:Nat) (w:ByteArray):∀ m k,k≤cm s a w m k
 | 0,k=>Nat.le_refl _
 | m+1,k=>by
  unfold cm;split
  ·have:=cm_ge s a w m (k+1);omega
  ·exact Nat.le_refl _
theorem cm_le (s:ByteArray) (a:Nat) (w:ByteArray):∀ m k,k≤w.size→a+k≤s.size→cm s a w m k≤w.size∧a+cm s a w m k≤s.size
 | 0,k=>fun h h'=>⟨h,h'⟩
 | m+1,k=>fun h h'=>by
  unfold cm;split
  ·exact cm_le s a w m (k+1) (by omega) (by omega)
  ·exact ⟨h,h'⟩
theorem com_le (s:ByteArray) (a:Nat) (w:ByteArray) (h:a≤s.size):com s a w≤w.size∧a+com s a w≤s.size:=cm_le s a w w.size 0 (by omega) (by omega)
theorem cm_yes {s:ByteArray} {a:Nat} {w:ByteArray} {k S:Nat} (hw:k<w.size) (hs:a+k<s.size) (he:bt s (a+k)=bt w k) (h:cm s a w (w.size - k) k=S):cm s a w (w.size - (k+1)) (k+1)=S:=by
 obtain ⟨m,hm⟩:∃ m,w.size - k=m+1:=⟨w.size - k - 1,by omega⟩
 rw [hm] at h;unfold cm at h;rw [if_pos ⟨hw,hs,he⟩] at h
 rw [show w.size - (k+1)=m by omega];exact h
theorem cm_no {s:ByteArray} {a:Nat} {w:ByteArray} {k S:Nat} (hk:¬ (k<w.size∧a+k<s.size∧bt s (a+k)=bt w k)) (h:cm s a w (w.size - k) k=S):S=k:=by
 cases hm:w.size - k with
 | zero=>rw [hm] at h;exact h.symm
 | succ m=>rw [hm] at h;unfold cm at h;rw [if_neg hk] at h;exact h.symm
def starts:List ByteArray:=[⟨#[116,97,103,115]⟩,⟨#[102,111,108,100]⟩,⟨#[109,97,112,40]⟩,⟨#[119,111,114,100,115]⟩,⟨#[98,108,97,110,107,115]⟩,⟨#[119,104,111,108,101]⟩]
def lates:List ByteArray:=[⟨#[108,111,119]⟩,⟨#[115,116,101,109]⟩,⟨#[115,116,111,112,40]⟩,⟨#[115,121,110,40]⟩,⟨#[108,101,110,40]⟩,⟨#[103,114,97,109,40]⟩,⟨#[101,100,103,101,40]⟩]
def kindS (i:Nat):Nat:=if i=2 then 1 else 0
def kindL (i:Nat):Nat:=if i=2 then 2 else if i=3 then 1 else if 4≤i then 3 else 0
def body (s:ByteArray) (k a:Nat):Bool × Nat :=
 if k=1 then lst s (pairP s) (s.size+1) a else if k=2 then lst s (word s) (s.size+1) a else if k=3 then bnds s a else (true,a)
def chn (s:ByteArray):Nat→Bool→Nat→Nat→(Bool × Nat) × Nat
 | 0,_,a,c=>((false,a),c)
 | m+1,cut,a,c =>
  match nm s a (if cut=true then lates else starts) 0 0 with
  | (none,b)=>((false,b),c)
  | (some i,b) =>
   let r:=body s (if cut=true then kindL i else kindS i) b
   if r.1=true then
    if (cut=true∨3≤i)∧r.2=s.size then ((true,r.2),c+1)
    else if byteIn s 59 59 r.2=true then chn s m (cut || decide (3≤i)) (r.2+1) (c+1) else ((false,r.2),c+1)
   else ((false,r.2),c+1)
end Pl
end Go.Proofs.YtcmgclckknpecaaGreatDoor
namespace Go.Proofs.YtcmgclckknpecaaGreatDoor
open Go.RowKit Go.Shelf
def ren316:Ren:=⟨fun | 316=>233 | n=>n,fun | 37=>164 | 127=>263 | n=>n,fun n=>n⟩
theorem lays316:LaysM.n316 Tryz.prog ren316 :=
 {mixed:=by kernel_rfl,f316:=by kernel_rfl,
  t0:=by kernel_rfl,a0:=fun _=>by kernel_rfl,z0:=fun _=>by kernel_rfl,v0:=fun _=>by kernel_rfl,
  t3:=by kernel_rfl,a3:=fun _=>by kernel_rfl,z3:=fun _=>by kernel_rfl,v3:=fun _=>by kernel_rfl,
  t4:=by kernel_rfl,a4:=fun _=>by kernel_rfl,z4:=fun _=>by kernel_rfl,v4:=fun _=>by kernel_rfl,
  t9:=by kernel_rfl,a9:=fun _=>by kernel_rfl,z9:=fun _=>by kernel_rfl,v9:=fun _=>by kernel_rfl,
  t37:=by kernel_rfl,a37:=fun _=>by kernel_rfl,z37:=fun _=>by kernel_rfl,v37:=fun _=>by kernel_rfl,
  t127:=by kernel_rfl,a127:=fun _=>by kernel_rfl,z127:=fun _=>by kernel_rfl,v127:=fun _=>by kernel_rfl,
  t5:=by kernel_rfl,a5:=fun _=>by kernel_rfl,z5:=fun _=>by kernel_rfl,v5:=fun _=>by kernel_rfl,
  i0:=by kernel_rfl,i3:=by kernel_rfl,i4:=by kernel_rfl,i5:=by kernel_rfl,i9:=by kernel_rfl,i37:=by kernel_rfl,i127:=by kernel_rfl }
theorem clone_in (s:ByteArray) (w:World) (hm:s.size≤120):Calls Tryz.prog 233 #[.string s] w fun e w'=>e=.returned (.string s)∧Below w.heap.size w w' :=
 Any.stringslite_Clone lays316 s w (by omega)
set_option maxHeartbeats 400000 in
theorem clone_any (s:ByteArray) (w:World) (hm:s.size≤120):Calls Tryz.prog 158 #[.string s] w fun e w'=>e=.returned (.string s)∧Below w.heap.size w w':=by
 go_enter Tryz.func158,Tryz.ntmps158
 go_wp2_with (go_at_call 233;refine (clone_in s _ hm).mono ?_;rintro e w1 ⟨rfl,hB⟩)
 go_ret
 exact ⟨rfl,hB⟩
end Go.Proofs.YtcmgclckknpecaaGreatDoor
namespace Go.Proofs.YtcmgclckknpecaaGreatDoor
open Go.RowKit
structure Rd (rb:Nat) (s:ByteArray) (a:Nat) (w:World):Prop where
 c0:w.cell? ⟨rb,0,none⟩=some (.string s)
 c1:w.cell? ⟨rb,1,none⟩=some (.int .i64 (a:Int))
 fz:∀ o,w.frozen? ⟨rb,o,none⟩=false
 lt:rb<w.heap.size
theorem grown_trans {A B C:World} {row:Option Nat} (h:A.grownBy B row) (k:B.grownBy C row):A.grownBy C row :=
 ⟨k.os.trans h.os,k.tape.trans h.tape,k.output.trans h.output,Nat.le_trans h.size k.size,fun i hi hr=>(k.block i (Nat.lt_of_lt_of_le hi h.size) hr).trans (h.block i hi hr)⟩
theorem grown_of_below {A B:World} (row:Option Nat) (h:Below A.heap.size A B):A.grownBy B row:=⟨h.os,h.tape,h.output,h.size,fun k hk _=>h.block k hk⟩
theorem grown_drewN (A:World) (n:Nat) (row:Option Nat):A.grownBy (A.drewN n) row:=grown_of_below row (below_drewN (Below.refl _ _) n)
theorem grown_set (A:World) (b o:Nat) (v:Value):A.grownBy (A.setCell ⟨b,o,none⟩ v) (some b) :=
 ⟨rfl,rfl,rfl,by simp,fun k _ hk=>Below.heap_setCell _ _ _ k (fun e=>hk (by rw [e]))⟩
theorem Rd.of_below {rb:Nat} {s:ByteArray} {a:Nat} {w w':World} (h:Rd rb s a w) (hb:Below w.heap.size w w'):Rd rb s a w' :=
 ⟨(hb.cell (p:=⟨rb,0,none⟩) h.lt).trans h.c0,(hb.cell (p:=⟨rb,1,none⟩) h.lt).trans h.c1,fun o=>(hb.frozen (p:=⟨rb,o,none⟩) h.lt).trans (h.fz o),Nat.lt_of_lt_of_le h.lt hb.size⟩
theorem Rd.set {rb:Nat} {s:ByteArray} {a:Nat} {w:World} (h:Rd rb s a w) (b:Nat):Rd rb s b (w.setCell ⟨rb,1,none⟩ (.int .i64 (b:Int))) :=
 ⟨(World.cell?_setCell_other _ _ _ _ (by simp)).trans h.c0,World.cell?_setCell_same _ _ _ h.c1,fun o=>(World.frozen?_setCell _ _ _ _).trans (h.fz o),by simpa using h.lt⟩
set_option maxHeartbeats 1000000 in
theorem byteWithin_no (rb:Nat) (s:ByteArray) (a lo hi:Nat) (w:World) (_hm:s.size≤80) (ha:a≤s.size) (h:Rd rb s a w) (hb:Pl.byteIn s lo hi a=false) :
  Calls Tryz.prog 190 #[.pointer (some ⟨rb,0,none⟩),.int .u8 (lo:Int),.int .u8 (hi:Int)] w fun e w' =>
   e=.returned (.tuple #[.int .u8 0,.bool false])∧Rd rb s a w'∧w.grownBy w' (some rb):=by
 have c0:=h.c0
 have c1:=h.c1
 have fz:=h.fz
 have hn:¬ (a<s.size∧lo≤Pl.bt s a∧Pl.bt s a≤hi):=of_decide_eq_false hb
 clear hb
 by_cases hend:a=s.size
 ·have he:((a:Int) == (s.size:Int))=true:=by simp;omega
  clear hend hn
  go_enter Tryz.func190,Tryz.ntmps190
  go_wp2_with fail
  go_quiet (fail)
  go_wp2
  go_ret2
  exact ⟨rfl,h.of_below (below_drewN (Below.refl _ _) _),grown_drewN _ _ _⟩
 ·have hlt:a<s.size:=by omega
  have hlt':(a:Int)<(s.size:Int):=by omega
  have he:((a:Int) == (s.size:Int))=false:=by simp;omega
  rw [Pl.bt_eq hlt] at hn
  have hb8:=UInt8.toNat_lt s[a]
  by_cases h1:s[a].toNat<lo
  ·have h1d:decide ((s[a].toNat:Int)<(lo:Int))=true:=by simp;omega
   clear hn
   go_enter Tryz.func190,Tryz.ntmps190
   go_wp2_with fail
   go_quiet (fail)
   go_wp2
   go_ret2
   exact ⟨rfl,h.of_below (below_drewN (Below.refl _ _) _),grown_drewN _ _ _⟩
  ·have h1d:decide ((s[a].toNat:Int)<(lo:Int))=false:=by simp;omega
   have h2i:(hi:Int)<(s[a].toNat:Int):=by omega
   clear hn
   go_enter Tryz.func190,Tryz.ntmps190
   go_wp2_with fail
   go_quiet (fail)
   go_wp2
   go_ret2
   exact ⟨rfl,h.of_below (below_drewN (Below.refl _ _) _),grown_drewN _ _ _⟩
set_option maxHeartbeats 1000000 in
theorem byteWithin_yes (rb:Nat) (s:ByteArray) (a lo hi:Nat) (w:World) (hm:s.size≤80) (h:Rd rb s a w) (hb:Pl.byteIn s lo hi a=true) :
  Calls Tryz.prog 190 #[.pointer (some ⟨rb,0,none⟩),.int .u8 (lo:Int),.int .u8 (hi:Int)] w fun e w' =>
   e=.returned (.tuple #[.int .u8 (Pl.bt s a:Int),.bool true])∧Rd rb s (a+1) w'∧w.grownBy w' (some rb):=by
 have c0:=h.c0
 have c1:=h.c1
 have fz:=h.fz
 obtain ⟨hlt,h1,h2⟩:=Pl.byteIn_lt hb
 clear hb
 have hlt':(a:Int)<(s.size:Int):=by omega
 have he:((a:Int) == (s.size:Int))=false:=by simp;omega
 have HBE:Hid (Pl.bt s a=s[a].toNat):=Pl.bt_eq hlt
 rw [HBE.out] at h1 h2
 have hb8:=UInt8.toNat_lt s[a]
 have h1d:decide ((s[a].toNat:Int)<(lo:Int))=false:=by simp;omega
 have h2d:decide ((hi:Int)<(s[a].toNat:Int))=false:=by simp;omega
 go_enter Tryz.func190,Tryz.ntmps190
 go_wp2_with fail
 go_quiet (fail)
 go_wp2
 go_quiet (fail)
 go_wp2
 go_ret2
 have e1:((a+1:Nat):Int)=(a:Int)+1:=by omega
 refine ⟨by rw [HBE.out];rfl,?_,?_⟩
 ·rw [← e1]
  exact ((h.of_below (below_drewN (Below.refl _ _) _)).set (a+1)).of_below (below_drewN (Below.refl _ _) _)
 ·exact grown_trans (grown_trans (grown_drewN _ _ _) (grown_set _ rb 1 _)) (grown_drewN _ _ _)
theorem sign_no (rb:Nat) (s:ByteArray) (a c:Nat) (w:World) (hm:s.size≤80) (ha:a≤s.size) (h:Rd rb s a w) (hb:Pl.byteIn s c c a=false) :
  Calls Tryz.prog 124 #[.pointer (some ⟨rb,0,none⟩),.int .u8 (c:Int)] w fun e w'=>e=.returned (.bool false)∧Rd rb s a w'∧w.grownBy w' (some rb):=by
 have HB:Hid (Pl.byteIn s c c a=false):=hb
 clear hb
 go_enter Tryz.func124,Tryz.ntmps124
 go_wp2_with (go_at_call 190;refine (byteWithin_no rb s a c c _ hm ha h HB.out).mono ?_;rintro e w1 ⟨rfl,hr,hg⟩)
 go_ret
 exact ⟨rfl,hr,hg⟩
theorem sign_yes (rb:Nat) (s:ByteArray) (a c:Nat) (w:World) (hm:s.size≤80) (h:Rd rb s a w) (hb:Pl.byteIn s c c a=true) :
  Calls Tryz.prog 124 #[.pointer (some ⟨rb,0,none⟩),.int .u8 (c:Int)] w fun e w'=>e=.returned (.bool true)∧Rd rb s (a+1) w'∧w.grownBy w' (some rb):=by
 have HB:Hid (Pl.byteIn s c c a=true):=hb
 clear hb
 go_enter Tryz.func124,Tryz.ntmps124
 go_wp2_with (go_at_call 190;refine (byteWithin_yes rb s a c c _ hm h HB.out).mono ?_;rintro e w1 ⟨rfl,hr,hg⟩)
 go_ret
 exact ⟨rfl,hr,hg⟩
theorem sign_at (rb:Nat) (s:ByteArray) (a c:Nat) (ci:Int) (hci:ci=(c:Int)) (w:World) (hm:s.size≤80) (ha:a≤s.size) (h:Rd rb s a w) :
  Calls Tryz.prog 124 #[.pointer (some ⟨rb,0,none⟩),.int .u8 ci] w fun e w'=>e=.returned (.bool (Pl.sign s c a).1)∧Rd rb s (Pl.sign s c a).2 w'∧w.grownBy w' (some rb):=by
 subst hci
 by_cases hb:Pl.byteIn s c c a=true
 ·simp only [Pl.sign,hb,if_true];exact sign_yes rb s a c w hm h hb
 ·have hb':Pl.byteIn s c c a=false:=by simpa using hb
  simp only [Pl.sign,hb',Bool.false_eq_true,if_false];exact sign_no rb s a c w hm ha h hb'
end Go.Proofs.YtcmgclckknpecaaGreatDoor
namespace Go.Proofs.YtcmgclckknpecaaGreatDoor
open Go.RowKit
def plc (rb:Nat) (w:World):Nat:=match w.cell? ⟨rb,1,none⟩ with
 | some (.int _ z)=>z.toNat
 | _=>0
theorem plc_eq {rb:Nat} {s:ByteArray} {a:Nat} {w:World} (h:Rd rb s a w):plc rb w=a:=by
 unfold plc;rw [h.c1];rfl
namespace Pl
def wordC (s:ByteArray) (a:Nat):ByteArray:=s.extract a (word s a).2
def pairC (s:ByteArray) (a:Nat):ByteArray × ByteArray:=(wordC s a,wordC s ((word s a).2+1))
def rowC {α:Type} (s:ByteArray) (item:Nat→Bool × Nat) (cont:Nat→α):Nat→Nat→List α
 | 0,_=>[]
 | m+1,a=>cont a :: if byteIn s 44 44 (item a).2=true then rowC s item cont m ((item a).2+1) else []
def bndsC (s:ByteArray) (a:Nat):Nat × Nat:=(bt s a - 48,bt s (a+2) - 48)
end Pl
set_option maxHeartbeats 1000000 in
theorem word_any (rb:Nat) (s:ByteArray) (a:Nat) (w:World) (hm:s.size≤80) (ha:a≤s.size) (h:Rd rb s a w) :
  Calls Tryz.prog 188 #[.pointer (some ⟨rb,0,none⟩)] w fun e w'=>∃ t,e=.returned (.tuple #[.string t,.bool (Pl.word s a).1])∧Rd rb s (Pl.word s a).2 w'∧w.grownBy w' (some rb)∧Hid (t=Pl.wordC s a):=by
 obtain ⟨E,hE⟩:∃ E,Pl.lets s 8 a=E:=⟨_,rfl⟩
 have hfit:=Pl.lets_fits s 8 a ha
 rw [hE] at hfit
 have hw1:(Pl.word s a).1=decide (a<E):=by rw [← hE];rfl
 have hw2:(Pl.word s a).2=E:=hE
 rw [hw1,hw2]
 have HE:Hid (Pl.lets s 8 a=E):=hE
 clear hE hw1 hw2
 have c1:=h.c1
 go_enter Tryz.func188,Tryz.ntmps188
 go_wp2
 clear c1
 go_loopw [5,6] (fun _ _ wr=>∃ b m:Nat,a≤b∧b≤s.size∧b+m=a+8∧Hid (Pl.lets s m b=E)∧Rd rb s b wr∧w.grownBy wr (some rb)) (fun _ _ wr=>200 - plc rb wr)
 case atStart=>exact ⟨a,8,by omega,ha,rfl,HE,h,World.grownBy.refl _ _⟩
 case round =>
  obtain ⟨b,m,hab,hbs,hbm,HL,hr,hg⟩:=hrel
  have c1:=hr.c1
  have hex:(b=a+8∨Pl.byteIn s 97 122 b=false)∨(b<a+8∧Pl.byteIn s 97 122 b=true):=by
   cases Pl.byteIn s 97 122 b <;> simp <;> omega
  have c0:=hr.c0
  have hlt:=hr.lt
  rcases hex with hex | ⟨hb8,hyes⟩
  ·have hbE:b=E:=by
    have hl:=HL.out
    cases m with
    | zero=>exact hl
    | succ m => rcases hex with h8 | hno
                · omega
                · unfold Pl.lets at hl; rw [hno] at hl; exact hl
   have HBE:Hid (b=E):=hbE
   clear hbE
   by_cases hb8:b<a+8
   ·have HNO : Hid (Pl.byteIn s 97 122 b = false) := by rcases hex with h8 | hno; · omega
                                                        · exact hno
    clear hex
    have hb8':(b:Int)<(a:Int)+8:=by omega
    go_wp2_with fail
    refine (byteWithin_no rb s b 97 122 _ hm hbs hr HNO.out).mono ?_
    rintro e w1 ⟨rfl,hr1,hg1⟩
    have d0:=hr1.c0
    have d1:=hr1.c1
    have dl:=hr1.lt
    have n0:=World.new_ne w1 _ d0
    have n1:=World.new_ne w1 _ d1
    clear c0 c1
    go_wp2
    go_region_held3 (fun w'=>w'.cell? ⟨rb,0,none⟩=some (.string s)∧w'.cell? ⟨rb,1,none⟩=some (.int .i64 (b:Int))) (go_keep) ((go_at_call 158;refine (clone_any _ _ (by simp;omega)).mono ?_;rintro e w2 ⟨rfl,hB2⟩;have hr2:=(hr1.of_below (Below.refl _ w1).drew).of_below hB2;have k0:=hr2.c0;have k1:=hr2.c1))
    go_wp2
    go_ret2
    refine ⟨s.extract a b,by rw [← HBE.out];rfl,by rw [← HBE.out];exact hr2,?_,?_⟩
    ·exact grown_trans hg (grown_trans hg1 (grown_trans (grown_drewN w1 1 _) (grown_of_below _ hB2)))
    ·show s.extract a b=s.extract a (Pl.lets s 8 a)
     rw [HE.out,HBE.out]
   ·have hb8':¬ (b:Int)<(a:Int)+8:=by omega
    clear hex
    have n0:=World.new_ne wr _ c0
    have n1:=World.new_ne wr _ c1
    go_wp2
    go_region_held3 (fun w'=>w'.cell? ⟨rb,0,none⟩=some (.string s)∧w'.cell? ⟨rb,1,none⟩=some (.int .i64 (b:Int))) (go_keep) ((go_at_call 158;refine (clone_any _ _ (by simp;omega)).mono ?_;rintro e w2 ⟨rfl,hB2⟩;have hr2:=(hr.of_below (Below.refl _ wr).drew).of_below hB2;have k0:=hr2.c0;have k1:=hr2.c1))
    go_wp2
    go_ret2
    refine ⟨s.extract a b,by rw [← HBE.out];rfl,by rw [← HBE.out];exact hr2,?_,?_⟩
    ·exact grown_trans hg (grown_trans (grown_drewN wr 1 _) (grown_of_below _ hB2))
    ·show s.extract a b=s.extract a (Pl.lets s 8 a)
     rw [HE.out,HBE.out]
  ·have hb8':(b:Int)<(a:Int)+8:=by omega
   have HL2:Hid (∃ m',m=m'+1∧Pl.lets s m' (b+1)=E):=by
    have hl:=HL.out
    cases m with
    | zero=>omega
    | succ m=>exact ⟨m,rfl,by unfold Pl.lets at hl;rw [if_pos hyes] at hl;exact hl⟩
   have hbs2:=(Pl.byteIn_lt hyes).1
   have HYES:Hid (Pl.byteIn s 97 122 b=true):=hyes
   clear hyes
   go_wp2_with fail
   refine (byteWithin_yes rb s b 97 122 _ hm hr HYES.out).mono ?_
   rintro e w1 ⟨rfl,hr1,hg1⟩
   go_wp2
   go_roundw
   case rel =>
    obtain ⟨m',rfl,hl⟩:=HL2.out
    exact ⟨b+1,m',by omega,by omega,by omega,hl,hr1,grown_trans hg hg1⟩
   case measure=>rw [plc_eq hr1,plc_eq hr];omega
end Go.Proofs.YtcmgclckknpecaaGreatDoor
namespace Go.Proofs.YtcmgclckknpecaaGreatDoor
open Go.RowKit
theorem com_extract (s:ByteArray) (a:Nat) (y:ByteArray) (ha:a≤s.size):Pl.com (s.extract a s.size) 0 y=Pl.com s a y:=by
 have key:∀ m k,Pl.cm (s.extract a s.size) 0 y m k=Pl.cm s a y m k:=by
  intro m
  induction m with
  | zero=>intro k;rfl
  | succ m ih =>
   intro k
   have e1:(0+k<(s.extract a s.size).size) ↔ (a+k<s.size):=by simp;omega
   have e2:Pl.bt (s.extract a s.size) (0+k)=Pl.bt s (a+k):=by rw [Pl.bt_extract s a _ ha];congr 1;omega
   unfold Pl.cm
   simp only [e1,e2,ih]
 exact key _ _
set_option maxHeartbeats 1000000 in
theorem common_any (x y:ByteArray) (w:World) (hx:x.size≤80) (hy:y.size≤80) :
  Calls Tryz.prog 285 #[.string x,.string y] w fun e w'=>e=.returned (.int .i64 (Pl.com x 0 y:Int))∧∃ q,w'=w.drewN q:=by
 obtain ⟨S,hS⟩:∃ S,Pl.com x 0 y=S:=⟨_,rfl⟩
 rw [hS]
 have HS:Hid (Pl.cm x 0 y (y.size - 0) 0=S):=hS
 clear hS
 go_enter Tryz.func285,Tryz.ntmps285
 go_wp2
 go_loopw [5] (fun n wr=>∃ k q:Nat,n=.int .i64 (k:Int)∧k≤y.size∧k≤x.size∧Hid (Pl.cm x 0 y (y.size - k) k=S)∧wr=w.drewN q) (fun n _=>100 - (intOf n).toNat)
 case atStart=>exact ⟨0,0,rfl,by omega,by omega,HS,rfl⟩
 case round =>
  obtain ⟨k,q,rfl,hk,hkx,HL,rfl⟩:=hrel
  by_cases h1:k<x.size
  ·have h1':(k:Int)<(x.size:Int):=by omega
   by_cases h2:k<y.size
   ·have h2':(k:Int)<(y.size:Int):=by omega
    have hbx:Pl.bt x (0+k)=x[k].toNat:=by rw [Nat.zero_add];exact Pl.bt_eq h1
    have hby:Pl.bt y k=y[k].toNat:=Pl.bt_eq h2
    by_cases h3:x[k].toNat=y[k].toNat
    ·have h3':((x[k].toNat:Int) == (y[k].toNat:Int))=true:=by simp;omega
     have HN:Hid (Pl.cm x 0 y (y.size - (k+1)) (k+1)=S):=Pl.cm_yes h2 (by omega) (by rw [hbx,hby];exact h3) HL.out
     clear hbx hby h3
     go_wp2_with fail
     go_quiet (fail)
     go_wp2
     go_roundw
     case rel=>exact ⟨k+1,q+nq,by go_num,by omega,by omega,HN,rfl⟩
     case measure=>simp [intOf];omega
    ·have h3':((x[k].toNat:Int) == (y[k].toNat:Int))=false:=by simp;omega
     have HN:Hid (S=k):=Pl.cm_no (by rintro ⟨_,_,e⟩;rw [hbx,hby] at e;exact h3 e) HL.out
     clear hbx hby h3
     go_wp2_with fail
     go_quiet (fail)
     go_wp2
     go_ret
     exact ⟨ret_int (by rw [HN.out]),q+nq,by simp⟩
   ·have h2':decide ((k:Int)<(y.size:Int))=false:=by simp;omega
    have HN:Hid (S=k):=Pl.cm_no (by rintro ⟨e,_⟩;exact h2 e) HL.out
    go_wp2_with fail
    go_quiet (fail)
    go_wp2
    go_ret
    exact ⟨ret_int (by rw [HN.out]),q+nq,by simp⟩
  ·have h1':decide ((k:Int)<(x.size:Int))=false:=by simp;omega
   have HN:Hid (S=k):=Pl.cm_no (by rintro ⟨_,e,_⟩;omega) HL.out
   go_wp2_with fail
   go_quiet (fail)
   go_wp2
   go_ret
   exact ⟨ret_int (by rw [HN.out]),q+nq,by simp⟩
end Go.Proofs.YtcmgclckknpecaaGreatDoor
