import Derived.Test.YtcmgclckknpecaaGreatDoorKap
import Derived.Test.YtcmgclckknpecaaGreatDoorKaq
import Derived.Test.YtcmgclckknpecaaGreatDoorKas
import Derived.Test.YtcmgclckknpecaaGreatDoorKai
namespace Go.Proofs.YtcmgclckknpecaaGreatDoor
open Go.RowKit
theorem step_start (rb g:Nat) (s:ByteArray) (a:Nat) (w:World) (hm:s.size≤80) (ha:a≤s.size) (h:Rd rb s a w) (hN:Nms g Pl.starts w) (i b:Nat) (hi:i<Pl.starts.length) (HR:Hid (Pl.nm s a Pl.starts 0 0=(some i,b))) (hb:b≤s.size) (o:Bool) (c:Nat) (HB:Hid (Pl.body s (Pl.kindS i) b=(o,c))) :
  Calls Tryz.prog 123 #[.pointer (some ⟨rb,0,none⟩),.slice (some ⟨g,0,none⟩) 6 6] w fun e w'=>∃ p1 n1 d1 p2 n2 d2,∃ x z:Int,e=.returned (.tuple #[.agg #[.string (Pl.starts[i]),.slice p1 n1 d1,.slice p2 n2 d2,.int .i64 x,.int .i64 z],.bool o])∧Rd rb s c w'∧w.grownBy w' (some rb)∧Hid (o=true→StO w.heap.size (Pl.spC s (Pl.starts[i]) (Pl.kindS i) b) (.slice p1 n1 d1) (.slice p2 n2 d2) x z w'):=by
 have hi6:i<6:=hi
 obtain rfl | rfl | rfl | rfl | rfl | rfl:i=0∨i=1∨i=2∨i=3∨i=4∨i=5:=by omega
 ·obtain ⟨rfl,rfl⟩:true=o∧b=c:=by simpa [Pl.body,Pl.kindS] using HB.out
  exact (step_k0 rb g s a Pl.starts w hm ha h hN starts_size (by decide) (some 0) b HR hb (⟨#[116,97,103,115]⟩:ByteArray) true (.inl ⟨0,hi,rfl,rfl,rfl⟩) (by decide +kernel) (by decide +kernel) (by decide +kernel) (by decide +kernel) (by decide +kernel) (by decide +kernel)).mono fun e w' ⟨p1,n1,d1,p2,n2,d2,x,z,he,hr,hg,HS⟩=>⟨p1,n1,d1,p2,n2,d2,x,z,he,hr,hg,fun _=>HS.out⟩
 ·obtain ⟨rfl,rfl⟩:true=o∧b=c:=by simpa [Pl.body,Pl.kindS] using HB.out
  exact (step_k0 rb g s a Pl.starts w hm ha h hN starts_size (by decide) (some 1) b HR hb (⟨#[102,111,108,100]⟩:ByteArray) true (.inl ⟨1,hi,rfl,rfl,rfl⟩) (by decide +kernel) (by decide +kernel) (by decide +kernel) (by decide +kernel) (by decide +kernel) (by decide +kernel)).mono fun e w' ⟨p1,n1,d1,p2,n2,d2,x,z,he,hr,hg,HS⟩=>⟨p1,n1,d1,p2,n2,d2,x,z,he,hr,hg,fun _=>HS.out⟩
 ·have hr:Pl.lst s (Pl.pairP s) (s.size+1) b=(o,c):=by simpa [Pl.body,Pl.kindS] using HB.out
  exact step_map rb g s a Pl.starts w hm ha h hN starts_size (by decide) (some 2) b HR hb (⟨#[109,97,112,40]⟩:ByteArray) true (.inl ⟨2,hi,rfl,rfl,rfl⟩) (by decide +kernel) o c hr
 ·obtain ⟨rfl,rfl⟩:true=o∧b=c:=by simpa [Pl.body,Pl.kindS] using HB.out
  exact (step_k0 rb g s a Pl.starts w hm ha h hN starts_size (by decide) (some 3) b HR hb (⟨#[119,111,114,100,115]⟩:ByteArray) true (.inl ⟨3,hi,rfl,rfl,rfl⟩) (by decide +kernel) (by decide +kernel) (by decide +kernel) (by decide +kernel) (by decide +kernel) (by decide +kernel)).mono fun e w' ⟨p1,n1,d1,p2,n2,d2,x,z,he,hr,hg,HS⟩=>⟨p1,n1,d1,p2,n2,d2,x,z,he,hr,hg,fun _=>HS.out⟩
 ·obtain ⟨rfl,rfl⟩:true=o∧b=c:=by simpa [Pl.body,Pl.kindS] using HB.out
  exact (step_k0 rb g s a Pl.starts w hm ha h hN starts_size (by decide) (some 4) b HR hb (⟨#[98,108,97,110,107,115]⟩:ByteArray) true (.inl ⟨4,hi,rfl,rfl,rfl⟩) (by decide +kernel) (by decide +kernel) (by decide +kernel) (by decide +kernel) (by decide +kernel) (by decide +kernel)).mono fun e w' ⟨p1,n1,d1,p2,n2,d2,x,z,he,hr,hg,HS⟩=>⟨p1,n1,d1,p2,n2,d2,x,z,he,hr,hg,fun _=>HS.out⟩
 ·obtain ⟨rfl,rfl⟩:true=o∧b=c:=by simpa [Pl.body,Pl.kindS] using HB.out
  exact (step_k0 rb g s a Pl.starts w hm ha h hN starts_size (by decide) (some 5) b HR hb (⟨#[119,104,111,108,101]⟩:ByteArray) true (.inl ⟨5,hi,rfl,rfl,rfl⟩) (by decide +kernel) (by decide +kernel) (by decide +kernel) (by decide +kernel) (by decide +kernel) (by decide +kernel)).mono fun e w' ⟨p1,n1,d1,p2,n2,d2,x,z,he,hr,hg,HS⟩=>⟨p1,n1,d1,p2,n2,d2,x,z,he,hr,hg,fun _=>HS.out⟩
theorem step_late (rb g:Nat) (s:ByteArray) (a:Nat) (w:World) (hm:s.size≤80) (ha:a≤s.size) (h:Rd rb s a w) (hN:Nms g Pl.lates w) (i b:Nat) (hi:i<Pl.lates.length) (HR:Hid (Pl.nm s a Pl.lates 0 0=(some i,b))) (hb:b≤s.size) (o:Bool) (c:Nat) (HB:Hid (Pl.body s (Pl.kindL i) b=(o,c))) :
  Calls Tryz.prog 123 #[.pointer (some ⟨rb,0,none⟩),.slice (some ⟨g,0,none⟩) 7 7] w fun e w'=>∃ p1 n1 d1 p2 n2 d2,∃ x z:Int,e=.returned (.tuple #[.agg #[.string (Pl.lates[i]),.slice p1 n1 d1,.slice p2 n2 d2,.int .i64 x,.int .i64 z],.bool o])∧Rd rb s c w'∧w.grownBy w' (some rb)∧Hid (o=true→StO w.heap.size (Pl.spC s (Pl.lates[i]) (Pl.kindL i) b) (.slice p1 n1 d1) (.slice p2 n2 d2) x z w'):=by
 have hi6:i<7:=hi
 obtain rfl | rfl | rfl | rfl | rfl | rfl | rfl:i=0∨i=1∨i=2∨i=3∨i=4∨i=5∨i=6:=by omega
 ·obtain ⟨rfl,rfl⟩:true=o∧b=c:=by simpa [Pl.body,Pl.kindL] using HB.out
  exact (step_k0 rb g s a Pl.lates w hm ha h hN lates_size (by decide) (some 0) b HR hb (⟨#[108,111,119]⟩:ByteArray) true (.inl ⟨0,hi,rfl,rfl,rfl⟩) (by decide +kernel) (by decide +kernel) (by decide +kernel) (by decide +kernel) (by decide +kernel) (by decide +kernel)).mono fun e w' ⟨p1,n1,d1,p2,n2,d2,x,z,he,hr,hg,HS⟩=>⟨p1,n1,d1,p2,n2,d2,x,z,he,hr,hg,fun _=>HS.out⟩
 ·obtain ⟨rfl,rfl⟩:true=o∧b=c:=by simpa [Pl.body,Pl.kindL] using HB.out
  exact (step_k0 rb g s a Pl.lates w hm ha h hN lates_size (by decide) (some 1) b HR hb (⟨#[115,116,101,109]⟩:ByteArray) true (.inl ⟨1,hi,rfl,rfl,rfl⟩) (by decide +kernel) (by decide +kernel) (by decide +kernel) (by decide +kernel) (by decide +kernel) (by decide +kernel)).mono fun e w' ⟨p1,n1,d1,p2,n2,d2,x,z,he,hr,hg,HS⟩=>⟨p1,n1,d1,p2,n2,d2,x,z,he,hr,hg,fun _=>HS.out⟩
 ·have hr:Pl.lst s (Pl.word s) (s.size+1) b=(o,c):=by simpa [Pl.body,Pl.kindL] using HB.out
  exact step_stop rb g s a Pl.lates w hm ha h hN lates_size (by decide) (some 2) b HR hb (⟨#[115,116,111,112,40]⟩:ByteArray) true (.inl ⟨2,hi,rfl,rfl,rfl⟩) (by decide +kernel) (by decide +kernel) (by decide +kernel) o c hr
 ·have hr:Pl.lst s (Pl.pairP s) (s.size+1) b=(o,c):=by simpa [Pl.body,Pl.kindL] using HB.out
  exact step_syn rb g s a Pl.lates w hm ha h hN lates_size (by decide) (some 3) b HR hb (⟨#[115,121,110,40]⟩:ByteArray) true (.inl ⟨3,hi,rfl,rfl,rfl⟩) (by decide +kernel) (by decide +kernel) o c hr
 ·have hr:Pl.bnds s b=(o,c):=by simpa [Pl.body,Pl.kindL] using HB.out
  exact step_len rb g s a Pl.lates w hm ha h hN lates_size (by decide) (some 4) b HR hb (⟨#[108,101,110,40]⟩:ByteArray) true (.inl ⟨4,hi,rfl,rfl,rfl⟩) (by decide +kernel) (by decide +kernel) (by decide +kernel) (by decide +kernel) o c hr
 ·have hr:Pl.bnds s b=(o,c):=by simpa [Pl.body,Pl.kindL] using HB.out
  exact step_gram rb g s a Pl.lates w hm ha h hN lates_size (by decide) (some 5) b HR hb (⟨#[103,114,97,109,40]⟩:ByteArray) true (.inl ⟨5,hi,rfl,rfl,rfl⟩) (by decide +kernel) (by decide +kernel) (by decide +kernel) (by decide +kernel) (by decide +kernel) o c hr
 ·have hr:Pl.bnds s b=(o,c):=by simpa [Pl.body,Pl.kindL] using HB.out
  exact step_edge rb g s a Pl.lates w hm ha h hN lates_size (by decide) (some 6) b HR hb (⟨#[101,100,103,101,40]⟩:ByteArray) true (.inl ⟨6,hi,rfl,rfl,rfl⟩) (by decide +kernel) (by decide +kernel) (by decide +kernel) (by decide +kernel) (by decide +kernel) (by decide +kernel) o c hr
theorem step_start_no (rb g:Nat) (s:ByteArray) (a:Nat) (w:World) (hm:s.size≤80) (ha:a≤s.size) (h:Rd rb s a w) (hN:Nms g Pl.starts w) (b:Nat) (HR:Hid (Pl.nm s a Pl.starts 0 0=(none,b))) (hb:b≤s.size) :
  Calls Tryz.prog 123 #[.pointer (some ⟨rb,0,none⟩),.slice (some ⟨g,0,none⟩) 6 6] w fun e w'=>∃ p1 n1 d1 p2 n2 d2,∃ x z:Int,e=.returned (.tuple #[.agg #[.string ⟨#[]⟩,.slice p1 n1 d1,.slice p2 n2 d2,.int .i64 x,.int .i64 z],.bool false])∧Rd rb s b w'∧w.grownBy w' (some rb) :=
 (step_k0 rb g s a Pl.starts w hm ha h hN starts_size (by decide) none b HR hb (⟨#[]⟩:ByteArray) false (.inr ⟨rfl,rfl,rfl⟩) (by decide +kernel) (by decide +kernel) (by decide +kernel) (by decide +kernel) (by decide +kernel) (by decide +kernel)).mono fun e w' ⟨p1,n1,d1,p2,n2,d2,x,z,he,hr,hg,_⟩=>⟨p1,n1,d1,p2,n2,d2,x,z,he,hr,hg⟩
theorem step_late_no (rb g:Nat) (s:ByteArray) (a:Nat) (w:World) (hm:s.size≤80) (ha:a≤s.size) (h:Rd rb s a w) (hN:Nms g Pl.lates w) (b:Nat) (HR:Hid (Pl.nm s a Pl.lates 0 0=(none,b))) (hb:b≤s.size) :
  Calls Tryz.prog 123 #[.pointer (some ⟨rb,0,none⟩),.slice (some ⟨g,0,none⟩) 7 7] w fun e w'=>∃ p1 n1 d1 p2 n2 d2,∃ x z:Int,e=.returned (.tuple #[.agg #[.string ⟨#[]⟩,.slice p1 n1 d1,.slice p2 n2 d2,.int .i64 x,.int .i64 z],.bool false])∧Rd rb s b w'∧w.grownBy w' (some rb) :=
 (step_k0 rb g s a Pl.lates w hm ha h hN lates_size (by decide) none b HR hb (⟨#[]⟩:ByteArray) false (.inr ⟨rfl,rfl,rfl⟩) (by decide +kernel) (by decide +kernel) (by decide +kernel) (by decide +kernel) (by decide +kernel) (by decide +kernel)).mono fun e w' ⟨p1,n1,d1,p2,n2,d2,x,z,he,hr,hg,_⟩=>⟨p1,n1,d1,p2,n2,d2,x,z,he,hr,hg⟩
end Go.Proofs.YtcmgclckknpecaaGreatDoor
namespace Go.Proofs.YtcmgclckknpecaaGreatDoor
open Go.RowKit
theorem seven_cells {X:World} {b:Nat} (v0 v1 v2 v3 v4 v5 v6:Value) {u0 u1 u2 u3 u4 u5 u6:Value} (x0:X.cell? ⟨b,0,none⟩=some u0) (x1:X.cell? ⟨b,1,none⟩=some u1) (x2:X.cell? ⟨b,2,none⟩=some u2) (x3:X.cell? ⟨b,3,none⟩=some u3) (x4:X.cell? ⟨b,4,none⟩=some u4) (x5:X.cell? ⟨b,5,none⟩=some u5) (x6:X.cell? ⟨b,6,none⟩=some u6) (W:World)
  (hW:W=(((((((X.setCell ⟨b,0,none⟩ v0).setCell ⟨b,1,none⟩ v1).setCell ⟨b,2,none⟩ v2).setCell ⟨b,3,none⟩ v3).setCell ⟨b,4,none⟩ v4).setCell ⟨b,5,none⟩ v5).setCell ⟨b,6,none⟩ v6)) :
  W.cell? ⟨b,0,none⟩=some v0∧W.cell? ⟨b,1,none⟩=some v1∧W.cell? ⟨b,2,none⟩=some v2∧W.cell? ⟨b,3,none⟩=some v3∧W.cell? ⟨b,4,none⟩=some v4∧W.cell? ⟨b,5,none⟩=some v5∧W.cell? ⟨b,6,none⟩=some v6:=by
 subst hW
 refine ⟨?_,?_,?_,?_,?_,?_,?_⟩
 ·exact ((World.cell?_setCell_other _ _ _ _ (by simp)).trans ((World.cell?_setCell_other _ _ _ _ (by simp)).trans ((World.cell?_setCell_other _ _ _ _ (by simp)).trans ((World.cell?_setCell_other _ _ _ _ (by simp)).trans ((World.cell?_setCell_other _ _ _ _ (by simp)).trans ((World.cell?_setCell_other _ _ _ _ (by simp)).trans (World.cell?_setCell_same _ _ _ x0)))))))
 ·exact ((World.cell?_setCell_other _ _ _ _ (by simp)).trans ((World.cell?_setCell_other _ _ _ _ (by simp)).trans ((World.cell?_setCell_other _ _ _ _ (by simp)).trans ((World.cell?_setCell_other _ _ _ _ (by simp)).trans ((World.cell?_setCell_other _ _ _ _ (by simp)).trans (World.cell?_setCell_same _ _ _ ((World.cell?_setCell_other _ _ _ _ (by simp)).trans x1)))))))
 ·exact ((World.cell?_setCell_other _ _ _ _ (by simp)).trans ((World.cell?_setCell_other _ _ _ _ (by simp)).trans ((World.cell?_setCell_other _ _ _ _ (by simp)).trans ((World.cell?_setCell_other _ _ _ _ (by simp)).trans (World.cell?_setCell_same _ _ _ ((World.cell?_setCell_other _ _ _ _ (by simp)).trans ((World.cell?_setCell_other _ _ _ _ (by simp)).trans x2)))))))
 ·exact ((World.cell?_setCell_other _ _ _ _ (by simp)).trans ((World.cell?_setCell_other _ _ _ _ (by simp)).trans ((World.cell?_setCell_other _ _ _ _ (by simp)).trans (World.cell?_setCell_same _ _ _ ((World.cell?_setCell_other _ _ _ _ (by simp)).trans ((World.cell?_setCell_other _ _ _ _ (by simp)).trans ((World.cell?_setCell_other _ _ _ _ (by simp)).trans x3)))))))
 ·exact ((World.cell?_setCell_other _ _ _ _ (by simp)).trans ((World.cell?_setCell_other _ _ _ _ (by simp)).trans (World.cell?_setCell_same _ _ _ ((World.cell?_setCell_other _ _ _ _ (by simp)).trans ((World.cell?_setCell_other _ _ _ _ (by simp)).trans ((World.cell?_setCell_other _ _ _ _ (by simp)).trans ((World.cell?_setCell_other _ _ _ _ (by simp)).trans x4)))))))
 ·exact ((World.cell?_setCell_other _ _ _ _ (by simp)).trans (World.cell?_setCell_same _ _ _ ((World.cell?_setCell_other _ _ _ _ (by simp)).trans ((World.cell?_setCell_other _ _ _ _ (by simp)).trans ((World.cell?_setCell_other _ _ _ _ (by simp)).trans ((World.cell?_setCell_other _ _ _ _ (by simp)).trans ((World.cell?_setCell_other _ _ _ _ (by simp)).trans x5)))))))
 ·exact (World.cell?_setCell_same _ _ _ ((World.cell?_setCell_other _ _ _ _ (by simp)).trans ((World.cell?_setCell_other _ _ _ _ (by simp)).trans ((World.cell?_setCell_other _ _ _ _ (by simp)).trans ((World.cell?_setCell_other _ _ _ _ (by simp)).trans ((World.cell?_setCell_other _ _ _ _ (by simp)).trans ((World.cell?_setCell_other _ _ _ _ (by simp)).trans x6)))))))
theorem Blk.seven {b:Nat} {t:TypeId} {v0 v1 v2 v3 v4 v5 v6:Value} {W:World} (h:Blk b t #[v0,v1,v2,v3,v4,v5,v6] W):(W.cell? ⟨b,0,none⟩=some v0∧W.cell? ⟨b,1,none⟩=some v1∧W.cell? ⟨b,2,none⟩=some v2∧W.cell? ⟨b,3,none⟩=some v3∧W.cell? ⟨b,4,none⟩=some v4∧W.cell? ⟨b,5,none⟩=some v5∧W.cell? ⟨b,6,none⟩=some v6)∧(∀ o,W.frozen? ⟨b,o,none⟩=false):=by
 unfold Blk at h
 simp [World.cell?,World.frozen?,h]
theorem res19 {tmps:Array Value} {w:World} {b:Nat} {v0 v1 v2 v3 v4 v5 v6 k:Value} (hp:tmps[2]?=some (.pointer (some ⟨b,0,none⟩))) (h5:tmps[3]?=some k) (h:w.cell? ⟨b,0,none⟩=some v0∧w.cell? ⟨b,1,none⟩=some v1∧w.cell? ⟨b,2,none⟩=some v2∧w.cell? ⟨b,3,none⟩=some v3∧w.cell? ⟨b,4,none⟩=some v4∧w.cell? ⟨b,5,none⟩=some v5∧w.cell? ⟨b,6,none⟩=some v6) :
  (results Tryz.f63 tmps).run Tryz.prog w=.ok (.tuple #[.agg #[v0,v1,v2,v3,v4,v5,v6],k]) w:=by
 obtain ⟨c0,c1,c2,c3,c4,c5,c6⟩:=h
 simp [results,Tryz.results63,go_sem,hp,h5,c0,c1,c2,c3,c4,c5,c6]
theorem Rd.seven {rb:Nat} {s:ByteArray} {a:Nat} {X:World} (h:Rd rb s a X) {b:Nat} (hne:b≠rb) (v0 v1 v2 v3 v4 v5 v6:Value):Rd rb s a (((((((X.setCell ⟨b,0,none⟩ v0).setCell ⟨b,1,none⟩ v1).setCell ⟨b,2,none⟩ v2).setCell ⟨b,3,none⟩ v3).setCell ⟨b,4,none⟩ v4).setCell ⟨b,5,none⟩ v5).setCell ⟨b,6,none⟩ v6) :=
 (((((((h.other hne 0 v0).other hne 1 v1).other hne 2 v2).other hne 3 v3).other hne 4 v4).other hne 5 v5).other hne 6 v6)
theorem grown_seven {A X:World} {row:Option Nat} (h:A.grownBy X row) {b:Nat} (hb:A.heap.size≤b) (v0 v1 v2 v3 v4 v5 v6:Value):A.grownBy (((((((X.setCell ⟨b,0,none⟩ v0).setCell ⟨b,1,none⟩ v1).setCell ⟨b,2,none⟩ v2).setCell ⟨b,3,none⟩ v3).setCell ⟨b,4,none⟩ v4).setCell ⟨b,5,none⟩ v5).setCell ⟨b,6,none⟩ v6) row :=
 (grown_set_new (grown_set_new (grown_set_new (grown_set_new (grown_set_new (grown_set_new (grown_set_new h hb 0 v0) hb 1 v1) hb 2 v2) hb 3 v3) hb 4 v4) hb 5 v5) hb 6 v6)
theorem info47:(Tryz.prog.info? 96).map (fun i=>(i.zero,i.size,i.bytes))=some (some (.agg #[.string ⟨#[]⟩,.slice none 0 0,.slice none 0 0,.int .i64 0,.int .i64 0]),5,80):=by kernel_rfl
theorem row_ne_blk {W:World} {base:Nat} {e t:TypeId} {size:Nat} {v:Value} {n:Nat} {xs:List Value} {b:Nat} {cs:Array Value} (hr:W.ownsRow base e size v n xs) (h:Blk b t cs W) (he:e≠t):v.ownBlock≠some b:=by
 rcases hr.2 with ⟨rfl,_⟩ | ⟨g,cap,cur,rfl,_,hgb,_⟩
 ·simp [Value.ownBlock]
 ·intro e'
  obtain rfl:g=b:=by simpa [Value.ownBlock] using e'
  rw [show W.heap[g]?=_ from h] at hgb
  simp at hgb
  exact he hgb.2.symm
def tl (s:ByteArray) (m a k:Nat):(Bool × Nat) × Nat:=if a=s.size then ((true,a),k) else if Pl.byteIn s 59 59 a=true then Pl.chn s m true (a+1) k else ((false,a),k)
theorem chn_cut (s:ByteArray) (m:Nat) (cut:Bool) (a c b i d:Nat) (h:Pl.nm s a (if cut=true then Pl.lates else Pl.starts) 0 0=(some i,b)) (hb:Pl.body s (if cut=true then Pl.kindL i else Pl.kindS i) b=(true,d)) (hc:cut=true∨3≤i):Pl.chn s (m+1) cut a c=tl s m d (c+1):=by
 rw [chn_some s m cut a c b i true d h hb,if_pos rfl]
 have hcc:(cut || decide (3≤i))=true:=by rcases hc with h | h <;> simp [h]
 unfold tl
 rw [hcc]
 by_cases hd:d=s.size
 ·rw [if_pos ⟨hc,hd⟩,if_pos hd]
 ·rw [if_neg (fun h=>hd h.2),if_neg hd]
theorem chn_early (s:ByteArray) (m a c b i d:Nat) (h:Pl.nm s a Pl.starts 0 0=(some i,b)) (hb:Pl.body s (Pl.kindS i) b=(true,d)) (hc:¬ 3≤i):Pl.chn s (m+1) false a c=if Pl.byteIn s 59 59 d=true then Pl.chn s m false (d+1) (c+1) else ((false,d),c+1):=by
 rw [chn_some s m false a c b i true d h hb,if_pos rfl]
 simp [hc]
theorem chn_bad (s:ByteArray) (m:Nat) (cut:Bool) (a c b i d:Nat) (h:Pl.nm s a (if cut=true then Pl.lates else Pl.starts) 0 0=(some i,b)) (hb:Pl.body s (if cut=true then Pl.kindL i else Pl.kindS i) b=(false,d)):Pl.chn s (m+1) cut a c=((false,d),c+1):=by
 rw [chn_some s m cut a c b i false d h hb];simp
theorem nm_lt (s:ByteArray) (a:Nat):∀ (names:List ByteArray) (i lg j b:Nat),i+names.length≤j→Pl.nm s a names i lg≠(some j,b)
 | [],i,lg,j,b,_=>by simp [Pl.nm]
 | w :: r,i,lg,j,b,h=>by
  unfold Pl.nm
  simp only [List.length_cons] at h
  by_cases hf:Pl.com s a w=w.size
  ·rw [if_pos hf];simp;omega
  ·rw [if_neg hf];exact nm_lt s a r (i+1) _ j b (by omega)
theorem starts_nms (W:World):Nms W.heap.size Pl.starts (W.alloc (.cells #[.string ⟨#[116,97,103,115]⟩,.string ⟨#[102,111,108,100]⟩,.string ⟨#[109,97,112,40]⟩,.string ⟨#[119,111,114,100,115]⟩,.string ⟨#[98,108,97,110,107,115]⟩,.string ⟨#[119,104,111,108,101]⟩] 9)):=nms_new Pl.starts W
theorem lates_nms (W:World):Nms W.heap.size Pl.lates (W.alloc (.cells #[.string ⟨#[108,111,119]⟩,.string ⟨#[115,116,101,109]⟩,.string ⟨#[115,116,111,112,40]⟩,.string ⟨#[115,121,110,40]⟩,.string ⟨#[108,101,110,40]⟩,.string ⟨#[103,114,97,109,40]⟩,.string ⟨#[101,100,103,101,40]⟩] 9)):=nms_new Pl.lates W
theorem cell_alloc {X:World} {b:Nat} (hb:b<X.heap.size) (O:Obj) (o:Nat):(X.alloc O).cell? ⟨b,o,none⟩=X.cell? ⟨b,o,none⟩:=((Below.refl X.heap.size X).alloc (Nat.le_refl _) O).cell (p:=⟨b,o,none⟩) hb
theorem Blk.s0 {b:Nat} {t:TypeId} {v0 v1 v2 v3 v4 v5 v6:Value} {W:World} (h:Blk b t #[v0,v1,v2,v3,v4,v5,v6] W) (u:Value):Blk b t #[u,v1,v2,v3,v4,v5,v6] (W.setCell ⟨b,0,none⟩ u):=heap_set W b 0 u _ t h
theorem Blk.s1 {b:Nat} {t:TypeId} {v0 v1 v2 v3 v4 v5 v6:Value} {W:World} (h:Blk b t #[v0,v1,v2,v3,v4,v5,v6] W) (u:Value):Blk b t #[v0,u,v2,v3,v4,v5,v6] (W.setCell ⟨b,1,none⟩ u):=heap_set W b 1 u _ t h
theorem Blk.s2 {b:Nat} {t:TypeId} {v0 v1 v2 v3 v4 v5 v6:Value} {W:World} (h:Blk b t #[v0,v1,v2,v3,v4,v5,v6] W) (u:Value):Blk b t #[v0,v1,u,v3,v4,v5,v6] (W.setCell ⟨b,2,none⟩ u):=heap_set W b 2 u _ t h
theorem Blk.s3 {b:Nat} {t:TypeId} {v0 v1 v2 v3 v4 v5 v6:Value} {W:World} (h:Blk b t #[v0,v1,v2,v3,v4,v5,v6] W) (u:Value):Blk b t #[v0,v1,v2,u,v4,v5,v6] (W.setCell ⟨b,3,none⟩ u):=heap_set W b 3 u _ t h
theorem Blk.s4 {b:Nat} {t:TypeId} {v0 v1 v2 v3 v4 v5 v6:Value} {W:World} (h:Blk b t #[v0,v1,v2,v3,v4,v5,v6] W) (u:Value):Blk b t #[v0,v1,v2,v3,u,v5,v6] (W.setCell ⟨b,4,none⟩ u):=heap_set W b 4 u _ t h
theorem Blk.s5 {b:Nat} {t:TypeId} {v0 v1 v2 v3 v4 v5 v6:Value} {W:World} (h:Blk b t #[v0,v1,v2,v3,v4,v5,v6] W) (u:Value):Blk b t #[v0,v1,v2,v3,v4,u,v6] (W.setCell ⟨b,5,none⟩ u):=heap_set W b 5 u _ t h
theorem Blk.s6 {b:Nat} {t:TypeId} {v0 v1 v2 v3 v4 v5 v6:Value} {W:World} (h:Blk b t #[v0,v1,v2,v3,v4,v5,v6] W) (u:Value):Blk b t #[v0,v1,v2,v3,v4,v5,u] (W.setCell ⟨b,6,none⟩ u):=heap_set W b 6 u _ t h
theorem Blk.alloc {b:Nat} {t:TypeId} {cs:Array Value} {W:World} (h:Blk b t cs W) (O:Obj):Blk b t cs (W.alloc O):=h.keep (World.grownBy_alloc W O none) (by simp)
theorem Blk.setO {b:Nat} {t:TypeId} {cs:Array Value} {W:World} (h:Blk b t cs W) {b2:Nat} (hne:b2≠b) (o:Nat) (v:Value):Blk b t cs (W.setCell ⟨b2,o,none⟩ v):=h.keep (grown_set W b2 o v) (by simpa using hne)
theorem Rd.al {rb:Nat} {s:ByteArray} {a:Nat} {w:World} (h:Rd rb s a w) (O:Obj):Rd rb s a (w.alloc O):=h.of_below ((Below.refl _ w).alloc (Nat.le_refl _) O)
theorem starts_q:∀ i (hi:i<Pl.starts.length),(((Pl.starts[i]).toList == [119,111,114,100,115]) || ((Pl.starts[i]).toList == [98,108,97,110,107,115]) || ((Pl.starts[i]).toList == [119,104,111,108,101]))=decide (3≤i)∧(Pl.starts[i]).toList.isEmpty=false:=by decide +kernel
end Go.Proofs.YtcmgclckknpecaaGreatDoor
namespace Go.Proofs.YtcmgclckknpecaaGreatDoor
open Go.RowKit
theorem blk_cell {b:Nat} {t:TypeId} {cs:Array Value} {W:World} (h:Blk b t cs W) (o:Nat):W.cell? ⟨b,o,none⟩=cs[o]?:=by
 unfold Blk at h
 simp [World.cell?,h]
theorem blk_frozen {b:Nat} {t:TypeId} {cs:Array Value} {W:World} (h:Blk b t cs W) (o:Nat):W.frozen? ⟨b,o,none⟩=false:=by
 unfold Blk at h
 simp [World.frozen?,h]
theorem info171:(Tryz.prog.info? 194).map (fun i=>(i.zero,i.size,i.bytes))=some (some (.agg #[.nilFunc]),1,8):=by kernel_rfl
end Go.Proofs.YtcmgclckknpecaaGreatDoor
namespace Go.Proofs.YtcmgclckknpecaaGreatDoor
open Go.RowKit Go.Shelf
theorem ownsRow_base {w:World} {b b':Nat} {e:TypeId} {size:Nat} {v:Value} {n:Nat} {xs:List Value} (h:w.ownsRow b e size v n xs) (hb:b'≤b):w.ownsRow b' e size v n xs:=by
 refine ⟨h.1,?_⟩
 rcases h.2 with h | ⟨g,cap,cur,hv,hg,r⟩
 ·exact .inl h
 ·exact .inr ⟨g,cap,cur,hv,by omega,r⟩
set_option maxHeartbeats 400000 in
theorem collect_any (Bn:Nat) (s:ByteArray) (hm:s.size≤120) (xs:List (Nat × Nat × Nat)) (hlen:xs.length≤120) (HXS:Hid (Pl.cs (Pl.bt s) s.size s.size 0=xs)) (w:World) (hBn:Bn<w.heap.size)
  (hc:w.cell? ⟨Bn,0,none⟩=some (.string s)) :
  Calls Tryz.prog 40 #[.func (.func 83) #[] #[.pointer (some ⟨Bn,0,none⟩)]] w fun e W'=>∃ v,e=.returned v∧W'.ownsRow w.heap.size 38 3 v xs.length (xs.flatMap enc)∧Below w.heap.size w W':=by
 go_enter Tryz.func40,Tryz.ntmps40
 go_wp2_with (go_at_call 82;refine (callsIn_wide.1 (appendseq_in 3 (by omega) Bn s hm xs hlen HXS _ hBn hc)).mono ?_;rintro e w1 ⟨v,rfl,hrow,hB⟩)
 go_ret
 exact ⟨v,rfl,hrow,hB⟩
set_option maxHeartbeats 400000 in
theorem split_long (s:ByteArray) (w:World) (hl:120<s.size) :
  Calls Tryz.prog 17 #[.string s] w fun e w'=>e=.returned (.tuple #[.slice none 0 0,.int .i64 1])∧w'=w:=by
 have hl':(120:Int)<(s.size:Int):=by omega
 go_enter Tryz.func17,Tryz.ntmps17
 go_wp2
 go_ret2
 exact ⟨rfl,rfl⟩
set_option maxHeartbeats 400000 in
theorem split_any (s:ByteArray) (w:World) (hm:s.size≤120) (xs:List (Nat × Nat × Nat)) (HXS:Hid (Pl.cs (Pl.bt s) s.size s.size 0=xs)) :
  Calls Tryz.prog 17 #[.string s] w fun e w'=>∃ v,e=.returned (.tuple #[v,.int .i64 0])∧w'.ownsRow w.heap.size 38 3 v xs.length (xs.flatMap enc)∧Below w.heap.size w w':=by
 have hl':¬ (120:Int)<(s.size:Int):=by omega
 have hlen:xs.length≤120:=by have:=Pl.cs_length (Pl.bt s) s.size s.size 0;rw [HXS.out] at this;omega
 have hB0:Below w.heap.size w (w.alloc (.cells #[.string s] 9)):=(Below.refl _ w).alloc (Nat.le_refl _) _
 have HCol:Hid (Calls Tryz.prog 40 #[.func (.func 83) #[] #[.pointer (some ⟨w.heap.size,0,none⟩)]] (w.alloc (.cells #[.string s] 9)) fun e W'=>∃ v,e=.returned v∧W'.ownsRow w.heap.size 38 3 v xs.length (xs.flatMap enc)∧Below w.heap.size w W') :=
  (collect_any w.heap.size s hm xs hlen HXS (w.alloc (.cells #[.string s] 9)) (by simp) (by simp [go_sem])).mono fun e W' ⟨v,he,hr,hB⟩=>⟨v,he,ownsRow_base hr (by simp),hB0.trans (hB.mono (by simp))⟩
 go_enter Tryz.func17,Tryz.ntmps17
 go_wp2_with fail
 refine (callsIn_wide.1 (characters_in Fence.wide 3 trivial rfl s _)).mono ?_
 rintro e w1 ⟨rfl,rfl⟩
 go_wp2_with fail
 refine HCol.out.mono ?_
 rintro e w1 ⟨v,rfl,hrow,hB⟩
 go_wp2
 go_ret2
 exact ⟨v,rfl,hrow,hB⟩
end Go.Proofs.YtcmgclckknpecaaGreatDoor
namespace Go.Proofs.YtcmgclckknpecaaGreatDoor
open Go.RowKit Go.Shelf
theorem enc_getElem:∀ (xs:List (Nat × Nat × Nat)) (i:Nat) (h:i<xs.length),
  (xs.flatMap enc)[i*3]?=some (.int .i64 ((xs[i]).1:Int))∧(xs.flatMap enc)[i*3+1]?=some (.int .i64 ((xs[i]).2.1:Int))∧(xs.flatMap enc)[i*3+2]?=some (.int .i64 ((xs[i]).2.2:Int))
 | x :: r,0,_=>by simp [enc]
 | x :: r,i+1,h=>by
  have ih:=enc_getElem r i (by simpa using h)
  have e:∀ j,((x :: r).flatMap enc)[(i+1)*3+j]?=(r.flatMap enc)[i*3+j]?:=fun j=>by
   rw [List.flatMap_cons,List.getElem?_append_right (by simp [enc];omega)]
   congr 1
   simp [enc];omega
  refine ⟨(e 0).trans ih.1,(e 1).trans ih.2.1,(e 2).trans ih.2.2⟩
theorem tenc_getElem:∀ (xs:List Tk) (i:Nat) (h:i<xs.length),
  (xs.flatMap tenc)[i*4]?=some (.string (xs[i]).1)∧(xs.flatMap tenc)[i*4+1]?=some (.int .i64 ((xs[i]).2.1:Int))∧(xs.flatMap tenc)[i*4+2]?=some (.int .i64 ((xs[i]).2.2.1:Int))∧(xs.flatMap tenc)[i*4+3]?=some (.int .i64 ((xs[i]).2.2.2:Int))
 | x :: r,0,_=>by simp [tenc]
 | x :: r,i+1,h=>by
  have ih:=tenc_getElem r i (by simpa using h)
  have e:∀ j,((x :: r).flatMap tenc)[(i+1)*4+j]?=(r.flatMap tenc)[i*4+j]?:=fun j=>by
   rw [List.flatMap_cons,List.getElem?_append_right (by simp [tenc];omega)]
   congr 1
   simp [tenc];omega
  refine ⟨(e 0).trans ih.1,(e 1).trans ih.2.1,(e 2).trans ih.2.2.1,(e 3).trans ih.2.2.2⟩
theorem row_form {w:World} {base n size:Nat} {e:TypeId} {v:Value} {vs:List Value} (h:w.ownsRow base e size v n vs) :
  ∃ a cap,v=.slice a n cap∧n≤cap∧(0<n→∃ g,a=some ⟨g,0,none⟩∧base≤g∧g<w.heap.size∧(∀ o,w.frozen? ⟨g,o,none⟩=false)∧∀ j u,vs[j]?=some u→w.cell? ⟨g,j,none⟩=some u):=by
 rcases h.2 with ⟨rfl,h0⟩ | ⟨g,cap,cur,rfl,hb,hg,hcap,hmax,hcs,htake⟩
 ·exact ⟨none,0,by rw [h0],by omega,fun hp=>by omega⟩
 ·refine ⟨_,cap,rfl,hcap,fun hp=>⟨g,rfl,hb,(Array.getElem?_eq_some_iff.1 hg).1,fun o=>by simp [World.frozen?,hg],fun j u hu=>?_⟩⟩
  rw [← htake,List.getElem?_take] at hu
  split at hu
  ·simp [World.cell?,hg];simpa using hu
  ·cases hu
theorem cr_form {w:World} {base:Nat} {e:TypeId} {v:Value} {xs:List (Nat × Nat × Nat)} (h:w.ownsRow base e 3 v xs.length (xs.flatMap enc)) :
  ∃ a cap g,v=.slice a xs.length cap∧xs.length≤cap∧(0<xs.length→a=some ⟨g,0,none⟩)∧(0<xs.length→g<w.heap.size)∧Cr g 0 xs w:=by
 obtain ⟨a,cap,rfl,hcap,hp⟩:=row_form h
 by_cases h0:0<xs.length
 ·obtain ⟨g,rfl,_,hlt,_,hc⟩:=hp h0
  refine ⟨_,cap,g,rfl,hcap,fun _=>rfl,fun _=>hlt,⟨fun i hi=>?_⟩⟩
  obtain ⟨e0,e1,e2⟩:=enc_getElem xs i hi
  rw [Nat.zero_add]
  exact ⟨hc _ _ e0,hc _ _ e1,hc _ _ e2⟩
 ·exact ⟨a,cap,0,rfl,hcap,fun h=>absurd h h0,fun h=>absurd h h0,⟨fun i hi=>by omega⟩⟩
theorem tr_form {w:World} {base:Nat} {e:TypeId} {v:Value} {xs:List Tk} (h:w.ownsRow base e 4 v xs.length (xs.flatMap tenc)) :
  ∃ a cap g,v=.slice a xs.length cap∧(0<xs.length→a=some ⟨g,0,none⟩)∧(0<xs.length→g<w.heap.size)∧Tr g xs w:=by
 obtain ⟨a,cap,rfl,hcap,hp⟩:=row_form h
 by_cases h0:0<xs.length
 ·obtain ⟨g,rfl,_,hlt,_,hc⟩:=hp h0
  refine ⟨_,cap,g,rfl,fun _=>rfl,fun _=>hlt,⟨fun i hi=>?_⟩⟩
  obtain ⟨e0,e1,e2,e3⟩:=tenc_getElem xs i hi
  exact ⟨hc _ _ e0,hc _ _ e1,hc _ _ e2,hc _ _ e3⟩
 ·exact ⟨a,cap,0,rfl,fun h=>absurd h h0,fun h=>absurd h h0,⟨fun i hi=>by omega⟩⟩
end Go.Proofs.YtcmgclckknpecaaGreatDoor
