import Derived.Test.YtcmgclckknpecaaGreatDoorKad
namespace Go.Proofs.YtcmgclckknpecaaGreatDoor
open Go.RowKit
structure Pn (pb:Nat) (s:ByteArray) (a:Nat) (bad:Int) (l:Value) (w:World):Prop where
 c0:w.cell? ⟨pb,0,none⟩=some (.string s)
 c1:w.cell? ⟨pb,1,none⟩=some (.int .i64 (a:Int))
 c2:w.cell? ⟨pb,2,none⟩=some (.int .i64 bad)
 c3:w.cell? ⟨pb,3,none⟩=some l
 fz:∀ o,w.frozen? ⟨pb,o,none⟩=false
 lt:pb<w.heap.size
theorem Pn.of_below {pb:Nat} {s:ByteArray} {a:Nat} {bad:Int} {l:Value} {w w':World} (h:Pn pb s a bad l w) (hb:Below w.heap.size w w'):Pn pb s a bad l w' :=
 ⟨(hb.cell (p:=⟨pb,0,none⟩) h.lt).trans h.c0,(hb.cell (p:=⟨pb,1,none⟩) h.lt).trans h.c1,(hb.cell (p:=⟨pb,2,none⟩) h.lt).trans h.c2,(hb.cell (p:=⟨pb,3,none⟩) h.lt).trans h.c3,fun o=>(hb.frozen (p:=⟨pb,o,none⟩) h.lt).trans (h.fz o),Nat.lt_of_lt_of_le h.lt hb.size⟩
theorem Pn.drewN {pb:Nat} {s:ByteArray} {a:Nat} {bad:Int} {l:Value} {w:World} (h:Pn pb s a bad l w) (n:Nat):Pn pb s a bad l (w.drewN n):=h.of_below (below_drewN (Below.refl _ _) n)
theorem Pn.set1 {pb:Nat} {s:ByteArray} {a:Nat} {bad:Int} {l:Value} {w:World} (h:Pn pb s a bad l w) (b:Nat):Pn pb s b bad l (w.setCell ⟨pb,1,none⟩ (.int .i64 (b:Int))) :=
 ⟨(World.cell?_setCell_other _ _ _ _ (by simp)).trans h.c0,World.cell?_setCell_same _ _ _ h.c1,(World.cell?_setCell_other _ _ _ _ (by simp)).trans h.c2,(World.cell?_setCell_other _ _ _ _ (by simp)).trans h.c3,fun o=>(World.frozen?_setCell _ _ _ _).trans (h.fz o),by simpa using h.lt⟩
theorem Pn.set2 {pb:Nat} {s:ByteArray} {a:Nat} {bad:Int} {l:Value} {w:World} (h:Pn pb s a bad l w) (b:Int):Pn pb s a b l (w.setCell ⟨pb,2,none⟩ (.int .i64 b)) :=
 ⟨(World.cell?_setCell_other _ _ _ _ (by simp)).trans h.c0,(World.cell?_setCell_other _ _ _ _ (by simp)).trans h.c1,World.cell?_setCell_same _ _ _ h.c2,(World.cell?_setCell_other _ _ _ _ (by simp)).trans h.c3,fun o=>(World.frozen?_setCell _ _ _ _).trans (h.fz o),by simpa using h.lt⟩
def badOf (ok:Bool) (a:Nat):Int:=if ok=true then -1 else (a:Int)
set_option maxHeartbeats 1000000 in
theorem fail_new (pb:Nat) (s:ByteArray) (a:Nat) (l:Value) (w:World) (h:Pn pb s a (-1) l w) :
  Calls Tryz.prog 132 #[.pointer (some ⟨pb,0,none⟩)] w fun e w'=>e=.returned (.tuple #[])∧Pn pb s a (a:Int) l w'∧w.grownBy w' (some pb):=by
 have c1:=h.c1
 have c2:=h.c2
 have fz:=h.fz
 go_enter Tryz.func132,Tryz.ntmps132
 go_wp2
 go_end0
 exact ⟨rfl,h.set2 _,grown_set _ _ _ _⟩
set_option maxHeartbeats 1000000 in
theorem fail_old (pb:Nat) (s:ByteArray) (a:Nat) (bad:Int) (hb:0≤bad) (l:Value) (w:World) (h:Pn pb s a bad l w) :
  Calls Tryz.prog 132 #[.pointer (some ⟨pb,0,none⟩)] w fun e w'=>e=.returned (.tuple #[])∧Pn pb s a bad l w'∧w.grownBy w' (some pb):=by
 have c1:=h.c1
 have c2:=h.c2
 have fz:=h.fz
 go_enter Tryz.func132,Tryz.ntmps132
 go_wp2
 go_end0
 exact ⟨rfl,h,World.grownBy.refl _ _⟩
set_option maxHeartbeats 1000000 in
theorem on_old (pb:Nat) (s:ByteArray) (a c:Nat) (bad:Int) (hb:0≤bad) (l:Value) (w:World) (h:Pn pb s a bad l w) :
  Calls Tryz.prog 135 #[.pointer (some ⟨pb,0,none⟩),.int .u8 (c:Int)] w fun e w'=>e=.returned (.bool false)∧Pn pb s a bad l w'∧w.grownBy w' (some pb):=by
 have c0:=h.c0
 have c1:=h.c1
 have c2:=h.c2
 have hd:decide (bad<0)=false:=by simp;omega
 go_enter Tryz.func135,Tryz.ntmps135
 go_wp2_with fail
 go_quiet (fail)
 go_wp2
 go_ret
 exact ⟨rfl,h.drewN _,grown_drewN _ _ _⟩
set_option maxHeartbeats 1000000 in
theorem on_new (pb:Nat) (s:ByteArray) (a c:Nat) (l:Value) (w:World) (_hm:s.size≤80) (ha:a≤s.size) (h:Pn pb s a (-1) l w) :
  Calls Tryz.prog 135 #[.pointer (some ⟨pb,0,none⟩),.int .u8 (c:Int)] w fun e w'=>e=.returned (.bool (Pl.byteIn s c c a))∧Pn pb s a (-1) l w'∧w.grownBy w' (some pb):=by
 have c0:=h.c0
 have c1:=h.c1
 have c2:=h.c2
 by_cases hlt:a<s.size
 ·have hlt':(a:Int)<(s.size:Int):=by omega
  have hbe:=Pl.bt_eq hlt
  obtain ⟨B,hB⟩:∃ B,Pl.byteIn s c c a=B:=⟨_,rfl⟩
  have hq:((s[a].toNat:Int) == (c:Int))=B:=by
   rw [← hB,Pl.byteIn,hbe,Bool.eq_iff_iff];simp;omega
  rw [hB]
  clear hB hbe
  go_enter Tryz.func135,Tryz.ntmps135
  go_wp2_with fail
  go_quiet (fail)
  go_wp2
  go_ret
  exact ⟨rfl,h.drewN _,grown_drewN _ _ _⟩
 ·have hd:decide ((a:Int)<(s.size:Int))=false:=by simp;omega
  have hb:Pl.byteIn s c c a=false:=Pl.byteIn_no (by omega)
  rw [hb]
  clear hb
  go_enter Tryz.func135,Tryz.ntmps135
  go_wp2_with fail
  go_quiet (fail)
  go_wp2
  go_ret
  exact ⟨rfl,h.drewN _,grown_drewN _ _ _⟩
theorem take_new (pb:Nat) (s:ByteArray) (a c:Nat) (ci:Int) (hci:ci=(c:Int)) (l:Value) (w:World) (hm:s.size≤80) (ha:a≤s.size) (h:Pn pb s a (-1) l w) :
  Calls Tryz.prog 74 #[.pointer (some ⟨pb,0,none⟩),.int .u8 ci] w fun e w'=>e=.returned (.tuple #[])∧Pn pb s (Pl.sign s c a).2 (badOf (Pl.sign s c a).1 (Pl.sign s c a).2) l w'∧w.grownBy w' (some pb):=by
 subst hci
 have hon:=fun w h=>on_new pb s a c l w hm ha h
 by_cases hb:Pl.byteIn s c c a=true
 ·have hsg:Pl.sign s c a=(true,a+1):=by simp [Pl.sign,hb]
  have hlt:=(Pl.byteIn_lt hb).1
  rw [hsg]
  rw [hb] at hon
  have HON:Hid (∀ w,Pn pb s a (-1) l w→Calls Tryz.prog 135 #[.pointer (some ⟨pb,0,none⟩),.int .u8 (c:Int)] w fun e w'=>e=.returned (.bool true)∧Pn pb s a (-1) l w'∧w.grownBy w' (some pb)):=hon
  clear hon hb hsg
  go_enter Tryz.func74,Tryz.ntmps74
  go_wp2_with fail
  refine (HON.out _ h).mono ?_
  rintro e w1 ⟨rfl,hr1,hg1⟩
  have c1:=hr1.c1
  have fz:=hr1.fz
  go_wp2
  go_end0
  have e1:((a+1:Nat):Int)=(a:Int)+1:=by omega
  refine ⟨rfl,?_,grown_trans hg1 (grown_set _ _ _ _)⟩
  rw [← e1];exact hr1.set1 _
 ·have hb':Pl.byteIn s c c a=false:=by simpa using hb
  have hsg:Pl.sign s c a=(false,a):=by simp [Pl.sign,hb']
  rw [hsg]
  rw [hb'] at hon
  have HON:Hid (∀ w,Pn pb s a (-1) l w→Calls Tryz.prog 135 #[.pointer (some ⟨pb,0,none⟩),.int .u8 (c:Int)] w fun e w'=>e=.returned (.bool false)∧Pn pb s a (-1) l w'∧w.grownBy w' (some pb)):=hon
  clear hon hb hb' hsg
  go_enter Tryz.func74,Tryz.ntmps74
  go_wp2_with fail
  refine (HON.out _ h).mono ?_
  rintro e w1 ⟨rfl,hr1,hg1⟩
  go_wp2_with fail
  refine (fail_new pb s a l _ hr1).mono ?_
  rintro e w2 ⟨rfl,hr2,hg2⟩
  go_wp2
  go_end0
  exact ⟨rfl,hr2,grown_trans hg1 hg2⟩
theorem take_old (pb:Nat) (s:ByteArray) (a c:Nat) (ci:Int) (hci:ci=(c:Int)) (bad:Int) (hb:0≤bad) (l:Value) (w:World) (h:Pn pb s a bad l w) :
  Calls Tryz.prog 74 #[.pointer (some ⟨pb,0,none⟩),.int .u8 ci] w fun e w'=>e=.returned (.tuple #[])∧Pn pb s a bad l w'∧w.grownBy w' (some pb):=by
 subst hci
 go_enter Tryz.func74,Tryz.ntmps74
 go_wp2_with fail
 refine (on_old pb s a c bad hb l _ h).mono ?_
 rintro e w1 ⟨rfl,hr1,hg1⟩
 go_wp2_with fail
 refine (fail_old pb s a bad hb l _ hr1).mono ?_
 rintro e w2 ⟨rfl,hr2,hg2⟩
 go_wp2
 go_end0
 exact ⟨rfl,hr2,grown_trans hg1 hg2⟩
end Go.Proofs.YtcmgclckknpecaaGreatDoor
namespace Go.Proofs.YtcmgclckknpecaaGreatDoor
open Go.RowKit
def pplc (pb:Nat) (w:World):Nat:=match w.cell? ⟨pb,1,none⟩ with
 | some (.int _ z)=>z.toNat
 | _=>0
theorem pplc_eq {pb:Nat} {s:ByteArray} {a:Nat} {bad:Int} {l:Value} {w:World} (h:Pn pb s a bad l w):pplc pb w=a:=by
 unfold pplc;rw [h.c1];rfl
set_option maxHeartbeats 1000000 in
theorem letters_old (pb:Nat) (s:ByteArray) (a:Nat) (bad:Int) (hb:0≤bad) (l:Value) (w:World) (_hm:s.size≤80) (ha:a≤s.size) (h:Pn pb s a bad l w) :
  Calls Tryz.prog 220 #[.pointer (some ⟨pb,0,none⟩)] w fun e w'=>∃ t,e=.returned (.string t)∧Pn pb s a bad l w'∧w.grownBy w' (some pb):=by
 have c1:=h.c1
 have hd:decide (bad<0)=false:=by simp;omega
 go_enter Tryz.func220,Tryz.ntmps220
 go_wp2
 go_loopw [8] (fun _ wr=>∃ q,wr=w.drewN q) (fun _ _=>0)
 case atStart=>exact ⟨0,rfl⟩
 case round =>
  obtain ⟨q,rfl⟩:=hrel
  have c0:=h.c0
  have c2:=h.c2
  go_wp2_with fail
  go_quiet (fail)
  go_wp2_with fail
  refine (fail_old pb s a bad hb l _ (h.drewN _)).mono ?_
  rintro e w2 ⟨rfl,hr2,hg2⟩
  have d0:=hr2.c0
  have d1:=hr2.c1
  have d2:=hr2.c2
  clear c0 c1 c2
  go_wp2
  go_quiet (fail)
  go_wp2
  go_ret
  exact ⟨_,rfl,hr2.drewN _,grown_trans (grown_drewN _ _ _) (grown_trans hg2 (grown_drewN _ _ _))⟩
end Go.Proofs.YtcmgclckknpecaaGreatDoor
namespace Go.Proofs.YtcmgclckknpecaaGreatDoor
open Go.RowKit
theorem badOf_true (a:Nat):badOf true a = -1:=rfl
theorem badOf_false (a:Nat):badOf false a=(a:Int):=rfl
theorem take_st (pb:Nat) (s:ByteArray) (ok:Bool) (a c:Nat) (ci:Int) (hci:ci=(c:Int)) (l:Value) (w:World) (hm:s.size≤80) (ha:a≤s.size) (h:Pn pb s a (badOf ok a) l w) (o:Bool) (b:Nat) (hr:Pl.thenP (ok,a) (Pl.sign s c)=(o,b)) :
  Calls Tryz.prog 74 #[.pointer (some ⟨pb,0,none⟩),.int .u8 ci] w fun e w'=>e=.returned (.tuple #[])∧Pn pb s b (badOf o b) l w'∧w.grownBy w' (some pb):=by
 cases ok with
 | true =>
  have hr':Pl.sign s c a=(o,b):=hr
  have:=take_new pb s a c ci hci l w hm ha h
  rw [hr'] at this
  exact this
 | false =>
  simp only [Pl.thenP,Bool.false_eq_true,if_false,Prod.mk.injEq] at hr
  obtain ⟨rfl,rfl⟩:=hr
  exact take_old pb s a c ci hci _ (by rw [badOf_false];omega) l w h
theorem on_st (pb:Nat) (s:ByteArray) (ok:Bool) (a c:Nat) (ci:Int) (hci:ci=(c:Int)) (l:Value) (w:World) (hm:s.size≤80) (ha:a≤s.size) (h:Pn pb s a (badOf ok a) l w) (q:Bool) (hq:(ok && Pl.byteIn s c c a)=q) :
  Calls Tryz.prog 135 #[.pointer (some ⟨pb,0,none⟩),.int .u8 ci] w fun e w'=>e=.returned (.bool q)∧Pn pb s a (badOf ok a) l w'∧w.grownBy w' (some pb):=by
 subst hci hq
 cases ok with
 | true=>rw [Bool.true_and];exact on_new pb s a c l w hm ha h
 | false=>rw [Bool.false_and];exact on_old pb s a c _ (by rw [badOf_false];omega) l w h
end Go.Proofs.YtcmgclckknpecaaGreatDoor
namespace Go.Proofs.YtcmgclckknpecaaGreatDoor
open Go.RowKit
def Sb (sb:Nat) (v0 v1 v2 v3 v4:Value) (W:World):Prop:=W.heap[sb]?=some (.cells #[v0,v1,v2,v3,v4] 207 (0,0))
theorem Sb.cell {sb:Nat} {v0 v1 v2 v3 v4:Value} {W:World} (h:Sb sb v0 v1 v2 v3 v4 W):W.cell? ⟨sb,0,none⟩=some v0∧W.cell? ⟨sb,1,none⟩=some v1∧W.cell? ⟨sb,2,none⟩=some v2∧W.cell? ⟨sb,3,none⟩=some v3∧W.cell? ⟨sb,4,none⟩=some v4∧(∀ o,W.frozen? ⟨sb,o,none⟩=false):=by
 unfold Sb at h
 simp [World.cell?,World.frozen?,h]
theorem Sb.lt {sb:Nat} {v0 v1 v2 v3 v4:Value} {W:World} (h:Sb sb v0 v1 v2 v3 v4 W):sb<W.heap.size:=(Array.getElem?_eq_some_iff.1 h).1
theorem Sb.keep {sb:Nat} {v0 v1 v2 v3 v4:Value} {W W':World} {row:Option Nat} (h:Sb sb v0 v1 v2 v3 v4 W) (hg:W.grownBy W' row) (hne:row≠some sb):Sb sb v0 v1 v2 v3 v4 W' :=
 (hg.block sb h.lt (Ne.symm hne)).trans h
theorem heap_set (W:World) (b o:Nat) (v:Value) (cs:Array Value) (t:TypeId) (h:W.heap[b]?=some (.cells cs t (0,0))):(W.setCell ⟨b,o,none⟩ v).heap[b]?=some (.cells (cs.setIfInBounds o v) t (0,0)):=by
 obtain ⟨hlt,hk⟩:=Array.getElem?_eq_some_iff.1 h
 show (W.heap.modify b _)[b]?=_
 rw [Array.getElem?_eq_getElem (by rw [Array.size_modify];exact hlt),Array.getElem_modify_self,hk]
 rfl
theorem Sb.set1 {sb:Nat} {v0 v1 v2 v3 v4:Value} {W:World} (h:Sb sb v0 v1 v2 v3 v4 W) (v:Value):Sb sb v0 v v2 v3 v4 (W.setCell ⟨sb,1,none⟩ v):=heap_set W sb 1 v _ 207 h
theorem Sb.set2 {sb:Nat} {v0 v1 v2 v3 v4:Value} {W:World} (h:Sb sb v0 v1 v2 v3 v4 W) (v:Value):Sb sb v0 v1 v v3 v4 (W.setCell ⟨sb,2,none⟩ v):=heap_set W sb 2 v _ 207 h
theorem Sb.set3 {sb:Nat} {v0 v1 v2 v3 v4:Value} {W:World} (h:Sb sb v0 v1 v2 v3 v4 W) (v:Value):Sb sb v0 v1 v2 v v4 (W.setCell ⟨sb,3,none⟩ v):=heap_set W sb 3 v _ 207 h
theorem Sb.set4 {sb:Nat} {v0 v1 v2 v3 v4:Value} {W:World} (h:Sb sb v0 v1 v2 v3 v4 W) (v:Value):Sb sb v0 v1 v2 v3 v (W.setCell ⟨sb,4,none⟩ v):=heap_set W sb 4 v _ 207 h
theorem row_ne_sb {W:World} {base:Nat} {e:TypeId} {size:Nat} {v:Value} {n:Nat} {xs:List Value} {sb:Nat} {v0 v1 v2 v3 v4:Value} (hr:W.ownsRow base e size v n xs) (h:Sb sb v0 v1 v2 v3 v4 W) (he:e≠207):v.ownBlock≠some sb:=by
 rcases hr.2 with ⟨rfl,_⟩ | ⟨g,cap,cur,rfl,_,hgb,_⟩
 ·simp [Value.ownBlock]
 ·intro e'
  obtain rfl:g=sb:=by simpa [Value.ownBlock] using e'
  rw [show W.heap[g]?=_ from h] at hgb
  simp at hgb
  exact he hgb.2.symm
theorem ownsRow_set_other {W:World} {base:Nat} {e:TypeId} {size:Nat} {v:Value} {n:Nat} {xs:List Value} {b:Nat} (hr:W.ownsRow base e size v n xs) (hne:v.ownBlock≠some b) (o:Nat) (u:Value):(W.setCell ⟨b,o,none⟩ u).ownsRow base e size v n xs:=by
 refine ⟨hr.1,?_⟩
 rcases hr.2 with h | ⟨g,cap,cur,rfl,hb,hh,r⟩
 ·exact .inl h
 ·exact .inr ⟨g,cap,cur,rfl,hb,(Below.heap_setCell _ _ _ g (fun e=>hne (by simp [Value.ownBlock,e]))).trans hh,r⟩
theorem Pn.grown {pb:Nat} {s:ByteArray} {a:Nat} {bad:Int} {l:Value} {w w':World} {own:Option Nat} (h:Pn pb s a bad l w) (hg:w.grownBy w' own) (hne:own≠some pb):Pn pb s a bad l w' :=
 ⟨(hg.cell_far ⟨pb,0,none⟩ h.lt (Ne.symm hne)).trans h.c0,(hg.cell_far ⟨pb,1,none⟩ h.lt (Ne.symm hne)).trans h.c1,(hg.cell_far ⟨pb,2,none⟩ h.lt (Ne.symm hne)).trans h.c2,(hg.cell_far ⟨pb,3,none⟩ h.lt (Ne.symm hne)).trans h.c3,fun o=>(hg.frozen_far ⟨pb,o,none⟩ h.lt (Ne.symm hne)).trans (h.fz o),Nat.lt_of_lt_of_le h.lt hg.size⟩
theorem Pn.other {pb:Nat} {s:ByteArray} {a:Nat} {bad:Int} {l:Value} {w:World} (h:Pn pb s a bad l w) {b:Nat} (hne:b≠pb) (o:Nat) (v:Value):Pn pb s a bad l (w.setCell ⟨b,o,none⟩ v) :=
 h.grown (grown_set w b o v) (by simpa using hne)
theorem thenP_sign (s:ByteArray) (m b:Nat) (o3:Bool) (c3:Nat) (item:Nat→Bool × Nat) (R:Bool × Nat) (hi:item b=(o3,c3)) (h:Pl.lst s item (m+1) b=R) (hq:(o3 && Pl.byteIn s 44 44 c3)=false):Pl.thenP (o3,c3) (Pl.sign s 41)=R:=by
 unfold Pl.lst at h;rw [hi] at h
 cases o3 with
 | false=>exact h
 | true =>
  have hq':Pl.byteIn s 44 44 c3=false:=by simpa using hq
  simp only [Pl.thenP,if_true,hq',Bool.false_eq_true,if_false] at h
  exact h
theorem lst_more (s:ByteArray) (m b:Nat) (o3:Bool) (c3:Nat) (item:Nat→Bool × Nat) (R:Bool × Nat) (hi:item b=(o3,c3)) (h:Pl.lst s item (m+1) b=R) (hq:(o3 && Pl.byteIn s 44 44 c3)=true):o3=true∧c3<s.size∧Pl.lst s item m (c3+1)=R:=by
 simp only [Bool.and_eq_true] at hq
 obtain ⟨rfl,hb⟩:=hq
 unfold Pl.lst at h;rw [hi] at h
 simp only [Pl.thenP,if_true,hb] at h
 exact ⟨rfl,(Pl.byteIn_lt hb).1,h⟩
theorem pair_assoc (s:ByteArray) (b:Nat):Pl.thenP (Pl.thenP (Pl.word s b) (Pl.sign s 61)) (Pl.word s)=Pl.pairP s b:=by
 unfold Pl.pairP Pl.thenP
 by_cases h:(Pl.word s b).1=true <;> simp [h]
def agN:Value→Nat
 | .bool true=>1
 | _=>0
end Go.Proofs.YtcmgclckknpecaaGreatDoor
