import Derived.Test.YtcmgclckknpecaaGreatDoorKan
import Derived.Test.YtcmgclckknpecaaGreatDoorKao
namespace Go.Proofs.YtcmgclckknpecaaGreatDoor
open Go.RowKit
def Blk (b:Nat) (t:TypeId) (cs:Array Value) (W:World):Prop:=W.heap[b]?=some (.cells cs t (0,0))
theorem Blk.lt {b:Nat} {t:TypeId} {cs:Array Value} {W:World} (h:Blk b t cs W):b<W.heap.size:=(Array.getElem?_eq_some_iff.1 h).1
theorem Blk.keep {b:Nat} {t:TypeId} {cs:Array Value} {W W':World} {row:Option Nat} (h:Blk b t cs W) (hg:W.grownBy W' row) (hne:row≠some b):Blk b t cs W':=(hg.block b h.lt (Ne.symm hne)).trans h
theorem Blk.set {b:Nat} {t:TypeId} {cs:Array Value} {W:World} (h:Blk b t cs W) (o:Nat) (v:Value):Blk b t (cs.setIfInBounds o v) (W.setCell ⟨b,o,none⟩ v):=heap_set W b o v cs t h
theorem Blk.five {b:Nat} {t:TypeId} {v0 v1 v2 v3 v4:Value} {W:World} (h:Blk b t #[v0,v1,v2,v3,v4] W):W.cell? ⟨b,0,none⟩=some v0∧W.cell? ⟨b,1,none⟩=some v1∧W.cell? ⟨b,2,none⟩=some v2∧W.cell? ⟨b,3,none⟩=some v3∧W.cell? ⟨b,4,none⟩=some v4∧(∀ o,W.frozen? ⟨b,o,none⟩=false):=by
 unfold Blk at h
 simp [World.cell?,World.frozen?,h]
theorem five_cells {X:World} {b:Nat} (v0 v1 v2 v3 v4:Value) {u0 u1 u2 u3 u4:Value} (x0:X.cell? ⟨b,0,none⟩=some u0) (x1:X.cell? ⟨b,1,none⟩=some u1) (x2:X.cell? ⟨b,2,none⟩=some u2) (x3:X.cell? ⟨b,3,none⟩=some u3) (x4:X.cell? ⟨b,4,none⟩=some u4) (W:World)
  (hW:W=((((X.setCell ⟨b,0,none⟩ v0).setCell ⟨b,1,none⟩ v1).setCell ⟨b,2,none⟩ v2).setCell ⟨b,3,none⟩ v3).setCell ⟨b,4,none⟩ v4) :
  W.cell? ⟨b,0,none⟩=some v0∧W.cell? ⟨b,1,none⟩=some v1∧W.cell? ⟨b,2,none⟩=some v2∧W.cell? ⟨b,3,none⟩=some v3∧W.cell? ⟨b,4,none⟩=some v4:=by
 subst hW
 refine ⟨?_,?_,?_,?_,?_⟩
 ·exact ((World.cell?_setCell_other _ _ _ _ (by simp)).trans ((World.cell?_setCell_other _ _ _ _ (by simp)).trans ((World.cell?_setCell_other _ _ _ _ (by simp)).trans ((World.cell?_setCell_other _ _ _ _ (by simp)).trans (World.cell?_setCell_same _ _ _ x0)))))
 ·exact ((World.cell?_setCell_other _ _ _ _ (by simp)).trans ((World.cell?_setCell_other _ _ _ _ (by simp)).trans ((World.cell?_setCell_other _ _ _ _ (by simp)).trans (World.cell?_setCell_same _ _ _ ((World.cell?_setCell_other _ _ _ _ (by simp)).trans x1)))))
 ·exact ((World.cell?_setCell_other _ _ _ _ (by simp)).trans ((World.cell?_setCell_other _ _ _ _ (by simp)).trans (World.cell?_setCell_same _ _ _ ((World.cell?_setCell_other _ _ _ _ (by simp)).trans ((World.cell?_setCell_other _ _ _ _ (by simp)).trans x2)))))
 ·exact ((World.cell?_setCell_other _ _ _ _ (by simp)).trans (World.cell?_setCell_same _ _ _ ((World.cell?_setCell_other _ _ _ _ (by simp)).trans ((World.cell?_setCell_other _ _ _ _ (by simp)).trans ((World.cell?_setCell_other _ _ _ _ (by simp)).trans x3)))))
 ·exact (World.cell?_setCell_same _ _ _ ((World.cell?_setCell_other _ _ _ _ (by simp)).trans ((World.cell?_setCell_other _ _ _ _ (by simp)).trans ((World.cell?_setCell_other _ _ _ _ (by simp)).trans ((World.cell?_setCell_other _ _ _ _ (by simp)).trans x4)))))
theorem res31 {tmps:Array Value} {w:World} {b:Nat} {v0 v1 v2 v3 v4 k:Value} (hp:tmps[4]?=some (.pointer (some ⟨b,0,none⟩))) (h5:tmps[5]?=some k)
  (h:w.cell? ⟨b,0,none⟩=some v0∧w.cell? ⟨b,1,none⟩=some v1∧w.cell? ⟨b,2,none⟩=some v2∧w.cell? ⟨b,3,none⟩=some v3∧w.cell? ⟨b,4,none⟩=some v4) :
  (results Tryz.f123 tmps).run Tryz.prog w=.ok (.tuple #[.agg #[v0,v1,v2,v3,v4],k]) w:=by
 obtain ⟨c0,c1,c2,c3,c4⟩:=h
 simp [results,Tryz.results123,go_sem,hp,h5,c0,c1,c2,c3,c4]
theorem cells_alloc {X:World} {b:Nat} {v0 v1 v2 v3 v4:Value} (hb:b<X.heap.size) (O:Obj) (h:X.cell? ⟨b,0,none⟩=some v0∧X.cell? ⟨b,1,none⟩=some v1∧X.cell? ⟨b,2,none⟩=some v2∧X.cell? ⟨b,3,none⟩=some v3∧X.cell? ⟨b,4,none⟩=some v4) :
  (X.alloc O).cell? ⟨b,0,none⟩=some v0∧(X.alloc O).cell? ⟨b,1,none⟩=some v1∧(X.alloc O).cell? ⟨b,2,none⟩=some v2∧(X.alloc O).cell? ⟨b,3,none⟩=some v3∧(X.alloc O).cell? ⟨b,4,none⟩=some v4:=by
 have k:∀ o,(X.alloc O).cell? ⟨b,o,none⟩=X.cell? ⟨b,o,none⟩:=fun o=>((Below.refl X.heap.size X).alloc (Nat.le_refl _) O).cell (p:=⟨b,o,none⟩) hb
 rw [k,k,k,k,k];exact h
theorem Rd.five {rb:Nat} {s:ByteArray} {a:Nat} {w:World} (h:Rd rb s a w) {b:Nat} (hne:b≠rb) (v0 v1 v2 v3 v4:Value):Rd rb s a (((((w.setCell ⟨b,0,none⟩ v0).setCell ⟨b,1,none⟩ v1).setCell ⟨b,2,none⟩ v2).setCell ⟨b,3,none⟩ v3).setCell ⟨b,4,none⟩ v4) :=
 ((((h.other hne 0 v0).other hne 1 v1).other hne 2 v2).other hne 3 v3).other hne 4 v4
theorem grown_five {A B:World} {row:Option Nat} (h:A.grownBy B row) {b:Nat} (hb:A.heap.size≤b) (v0 v1 v2 v3 v4:Value):A.grownBy (((((B.setCell ⟨b,0,none⟩ v0).setCell ⟨b,1,none⟩ v1).setCell ⟨b,2,none⟩ v2).setCell ⟨b,3,none⟩ v3).setCell ⟨b,4,none⟩ v4) row :=
 grown_set_new (grown_set_new (grown_set_new (grown_set_new (grown_set_new h hb 0 v0) hb 1 v1) hb 2 v2) hb 3 v3) hb 4 v4
structure Sp where
 nm:ByteArray
 ws:List ByteArray
 ps:List (ByteArray × ByteArray)
 lo:Nat
 hi:Nat
def Pl.wordsC (s:ByteArray) (b:Nat):List ByteArray:=Pl.rowC s (Pl.word s) (Pl.wordC s) (s.size+1) b
def Pl.pairsC (s:ByteArray) (b:Nat):List (ByteArray × ByteArray):=Pl.rowC s (Pl.pairP s) (Pl.pairC s) (s.size+1) b
def Pl.spC (s y:ByteArray) (k b:Nat):Sp:=⟨y,if k=2 then Pl.wordsC s b else [],if k=1 then Pl.pairsC s b else [],if k=3 then (Pl.bndsC s b).1 else 0,if k=3 then (Pl.bndsC s b).2 else 0⟩
structure StO (base:Nat) (sp:Sp) (v1 v2:Value) (x z:Int) (w:World):Prop where
 r1:w.ownsRow base 9 1 v1 sp.ws.length (sp.ws.map .string)
 r2:w.ownsRow base 357 2 v2 sp.ps.length (sp.ps.flatMap penc)
 hx:x=(sp.lo:Int)
 hz:z=(sp.hi:Int)
theorem ne_of_base {w:World} {base:Nat} {e:TypeId} {size:Nat} {v:Value} {n:Nat} {xs:List Value} (h:w.ownsRow base e size v n xs) {y:Nat} (hy:y<base):v.ownBlock≠some y:=fun e=>by
 have:=(ownBlock_lt h e).2
 omega
theorem ownsRow_five {W:World} {base:Nat} {e:TypeId} {size:Nat} {v:Value} {n:Nat} {xs:List Value} {b:Nat} (hr:W.ownsRow base e size v n xs) (hne:v.ownBlock≠some b) (v0 v1 v2 v3 v4:Value):(((((W.setCell ⟨b,0,none⟩ v0).setCell ⟨b,1,none⟩ v1).setCell ⟨b,2,none⟩ v2).setCell ⟨b,3,none⟩ v3).setCell ⟨b,4,none⟩ v4).ownsRow base e size v n xs :=
 ownsRow_set_other (ownsRow_set_other (ownsRow_set_other (ownsRow_set_other (ownsRow_set_other hr hne 0 v0) hne 1 v1) hne 2 v2) hne 3 v3) hne 4 v4
theorem ownsRow_low {W:World} {base base':Nat} {e:TypeId} {size:Nat} {v:Value} {n:Nat} {xs:List Value} (h:W.ownsRow base e size v n xs) (hb:base'≤base):W.ownsRow base' e size v n xs:=by
 refine ⟨h.1,?_⟩
 rcases h.2 with h | ⟨g,cap,cur,rfl,hg,r⟩
 ·exact .inl h
 ·exact .inr ⟨g,cap,cur,rfl,Nat.le_trans hb hg,r⟩
set_option maxRecDepth 100000 in
set_option maxHeartbeats 1000000 in
theorem step_k0 (rb g:Nat) (s:ByteArray) (a:Nat) (names:List ByteArray) (w:World) (hm:s.size≤80) (ha:a≤s.size) (h:Rd rb s a w) (hN:Nms g names w) (hsz:∀ i (hi:i<names.length),(names[i]).size≤8) (hlen:names.length≤8) (res:Option Nat) (b:Nat) (HR:Hid (Pl.nm s a names 0 0=(res,b))) (_hb:b≤s.size) (y:ByteArray) (ok1:Bool) (hy:(∃ i,∃ hi:i<names.length,res=some i∧y=names[i]∧ok1=true)∨(res=none∧y=⟨#[]⟩∧ok1=false)) (q1:(y.toList == [109,97,112,40])=false) (q2:(y.toList == [115,121,110,40])=false) (q3:(y.toList == [115,116,111,112,40])=false) (q4:(y.toList == [108,101,110,40])=false) (q5:(y.toList == [103,114,97,109,40])=false) (q6:(y.toList == [101,100,103,101,40])=false) :
  Calls Tryz.prog 123 #[.pointer (some ⟨rb,0,none⟩),.slice (some ⟨g,0,none⟩) names.length names.length] w fun e w'=>∃ p1 n1 d1 p2 n2 d2,∃ x z:Int,e=.returned (.tuple #[.agg #[.string y,.slice p1 n1 d1,.slice p2 n2 d2,.int .i64 x,.int .i64 z],.bool ok1])∧Rd rb s b w'∧w.grownBy w' (some rb)∧Hid (StO w.heap.size (Pl.spC s y 0 b) (.slice p1 n1 d1) (.slice p2 n2 d2) x z w'):=by
 have hrb:=h.lt
 have HONE:Hid (∀ W,Rd rb s a W→Nms g names W→Calls Tryz.prog 184 #[.pointer (some ⟨rb,0,none⟩),.slice (some ⟨g,0,none⟩) names.length names.length] W fun e w'=>e=.returned (.tuple #[.string y,.bool ok1])∧Rd rb s b w'∧W.grownBy w' (some rb)):=fun W hW hNW =>
  (oneOf_any rb g s a names W hm ha hW hNW hsz hlen res b HR).mono fun e w' ⟨he,hr,hg⟩=>⟨by
   rcases hy with ⟨i,hi,h1,h2,h3⟩ | ⟨h1,h2,h3⟩
   ·rcases he with ⟨j,hj,h4,h5⟩ | ⟨h4,_⟩
    ·obtain rfl:i=j:=by rw [h1] at h4;simpa using h4
     rw [h5,h2,h3]
    ·rw [h1] at h4;cases h4
   ·rcases he with ⟨j,hj,h4,h5⟩ | ⟨_,h5⟩
    ·rw [h1] at h4;cases h4
    ·rw [h5,h2,h3],hr,hg⟩
 have hA1:Rd rb s a (w.alloc (.cells #[.string ⟨#[]⟩,.slice none 0 0,.slice none 0 0,.int .i64 0,.int .i64 0] 96)):=h.of_below ((Below.refl _ w).alloc (Nat.le_refl _) _)
 have hA2:Nms g names (w.alloc (.cells #[.string ⟨#[]⟩,.slice none 0 0,.slice none 0 0,.int .i64 0,.int .i64 0] 96)):=hN.of_below ((Below.refl _ w).alloc (Nat.le_refl _) _)
 have bA:Blk w.heap.size 96 #[.string ⟨#[]⟩,.slice none 0 0,.slice none 0 0,.int .i64 0,.int .i64 0] (w.alloc (.cells #[.string ⟨#[]⟩,.slice none 0 0,.slice none 0 0,.int .i64 0,.int .i64 0] 96)):=heap_alloc_new w _
 clear hy hN
 go_enter Tryz.func123,Tryz.ntmps123
 go_wp2_with fail
 refine (HONE.out _ hA1 hA2).mono ?_
 rintro e w1 ⟨rfl,hr1,hg1⟩
 have hz1:=hg1.size
 simp only [World.size_alloc] at hz1
 have hzz:w.heap.size<w1.heap.size:=by omega
 have b1:=bA.keep hg1 (by simp;omega)
 have g1:w.grownBy w1 (some rb):=grown_trans (World.grownBy_alloc _ _ _) hg1
 have hr2:Rd rb s b (w1.alloc (.cells #[.string y,.slice none 0 0,.slice none 0 0,.int .i64 0,.int .i64 0] 96)):=hr1.of_below ((Below.refl _ w1).alloc (Nat.le_refl _) _)
 have b2:Blk w.heap.size 96 #[.string ⟨#[]⟩,.slice none 0 0,.slice none 0 0,.int .i64 0,.int .i64 0] (w1.alloc (.cells #[.string y,.slice none 0 0,.slice none 0 0,.int .i64 0,.int .i64 0] 96)):=b1.keep (World.grownBy_alloc w1 _ none) (by simp)
 have l2:Blk w1.heap.size 96 #[.string y,.slice none 0 0,.slice none 0 0,.int .i64 0,.int .i64 0] (w1.alloc (.cells #[.string y,.slice none 0 0,.slice none 0 0,.int .i64 0,.int .i64 0] 96)):=heap_alloc_new w1 _
 have g2:w.grownBy (w1.alloc (.cells #[.string y,.slice none 0 0,.slice none 0 0,.int .i64 0,.int .i64 0] 96)) (some rb):=grown_alloc g1 _
 obtain ⟨r0,r1,r2,r3,r4,rf⟩:=b1.five
 clear hA1 hA2 bA HONE
 go_wp2
 have hc5:=five_cells (.string y) (.slice none 0 0) (.slice none 0 0) (.int .i64 0) (.int .i64 0) r0 r1 r2 r3 r4 _ rfl
 refine bodyPost_ret (res31 rfl rfl (cells_alloc (by simp;omega) _ hc5)) rfl ⟨_,_,_,_,_,_,_,_,rfl,?_,?_,⟨World.ownsRow_nil _ _ _ _,World.ownsRow_nil _ _ _ _,rfl,rfl⟩⟩
 ·exact (hr1.five (by omega) _ _ _ _ _).of_below ((Below.refl _ _).alloc (Nat.le_refl _) _)
 ·exact grown_alloc (grown_five g1 (Nat.le_refl _) _ _ _ _ _) _
end Go.Proofs.YtcmgclckknpecaaGreatDoor
namespace Go.Proofs.YtcmgclckknpecaaGreatDoor
open Go.RowKit
set_option maxRecDepth 100000 in
set_option maxHeartbeats 1000000 in
theorem step_map (rb g:Nat) (s:ByteArray) (a:Nat) (names:List ByteArray) (w:World) (hm:s.size≤80) (ha:a≤s.size) (h:Rd rb s a w) (hN:Nms g names w) (hsz:∀ i (hi:i<names.length),(names[i]).size≤8) (hlen:names.length≤8) (res:Option Nat) (b:Nat) (HR:Hid (Pl.nm s a names 0 0=(res,b))) (hb:b≤s.size) (y:ByteArray) (ok1:Bool) (hy:(∃ i,∃ hi:i<names.length,res=some i∧y=names[i]∧ok1=true)∨(res=none∧y=⟨#[]⟩∧ok1=false)) (q1:(y.toList == [109,97,112,40])=true) (o:Bool) (c:Nat) (HB:Hid (Pl.lst s (Pl.pairP s) (s.size+1) b=(o,c))) :
  Calls Tryz.prog 123 #[.pointer (some ⟨rb,0,none⟩),.slice (some ⟨g,0,none⟩) names.length names.length] w fun e w'=>∃ p1 n1 d1 p2 n2 d2,∃ x z:Int,e=.returned (.tuple #[.agg #[.string y,.slice p1 n1 d1,.slice p2 n2 d2,.int .i64 x,.int .i64 z],.bool o])∧Rd rb s c w'∧w.grownBy w' (some rb)∧Hid (o=true→StO w.heap.size (Pl.spC s y 1 b) (.slice p1 n1 d1) (.slice p2 n2 d2) x z w'):=by
 have hrb:=h.lt
 have HONE:Hid (∀ W,Rd rb s a W→Nms g names W→Calls Tryz.prog 184 #[.pointer (some ⟨rb,0,none⟩),.slice (some ⟨g,0,none⟩) names.length names.length] W fun e w'=>e=.returned (.tuple #[.string y,.bool ok1])∧Rd rb s b w'∧W.grownBy w' (some rb)):=fun W hW hNW =>
  (oneOf_any rb g s a names W hm ha hW hNW hsz hlen res b HR).mono fun e w' ⟨he,hr,hg⟩=>⟨by
   rcases hy with ⟨i,hi,h1,h2,h3⟩ | ⟨h1,h2,h3⟩
   ·rcases he with ⟨j,hj,h4,h5⟩ | ⟨h4,_⟩
    ·obtain rfl:i=j:=by rw [h1] at h4;simpa using h4
     rw [h5,h2,h3]
    ·rw [h1] at h4;cases h4
   ·rcases he with ⟨j,hj,h4,h5⟩ | ⟨_,h5⟩
    ·rw [h1] at h4;cases h4
    ·rw [h5,h2,h3],hr,hg⟩
 have hA1:Rd rb s a (w.alloc (.cells #[.string ⟨#[]⟩,.slice none 0 0,.slice none 0 0,.int .i64 0,.int .i64 0] 96)):=h.of_below ((Below.refl _ w).alloc (Nat.le_refl _) _)
 have hA2:Nms g names (w.alloc (.cells #[.string ⟨#[]⟩,.slice none 0 0,.slice none 0 0,.int .i64 0,.int .i64 0] 96)):=hN.of_below ((Below.refl _ w).alloc (Nat.le_refl _) _)
 have bA:Blk w.heap.size 96 #[.string ⟨#[]⟩,.slice none 0 0,.slice none 0 0,.int .i64 0,.int .i64 0] (w.alloc (.cells #[.string ⟨#[]⟩,.slice none 0 0,.slice none 0 0,.int .i64 0,.int .i64 0] 96)):=heap_alloc_new w _
 clear hy hN
 go_enter Tryz.func123,Tryz.ntmps123
 go_wp2_with fail
 refine (HONE.out _ hA1 hA2).mono ?_
 rintro e w1 ⟨rfl,hr1,hg1⟩
 have hz1:=hg1.size
 simp only [World.size_alloc] at hz1
 have hzz:w.heap.size<w1.heap.size:=by omega
 have b1:=bA.keep hg1 (by simp;omega)
 have g1:w.grownBy w1 (some rb):=grown_trans (World.grownBy_alloc _ _ _) hg1
 have hr2:Rd rb s b (w1.alloc (.cells #[.string y,.slice none 0 0,.slice none 0 0,.int .i64 0,.int .i64 0] 96)):=hr1.of_below ((Below.refl _ w1).alloc (Nat.le_refl _) _)
 have b2:Blk w.heap.size 96 #[.string ⟨#[]⟩,.slice none 0 0,.slice none 0 0,.int .i64 0,.int .i64 0] (w1.alloc (.cells #[.string y,.slice none 0 0,.slice none 0 0,.int .i64 0,.int .i64 0] 96)):=b1.keep (World.grownBy_alloc w1 _ none) (by simp)
 have l2:Blk w1.heap.size 96 #[.string y,.slice none 0 0,.slice none 0 0,.int .i64 0,.int .i64 0] (w1.alloc (.cells #[.string y,.slice none 0 0,.slice none 0 0,.int .i64 0,.int .i64 0] 96)):=heap_alloc_new w1 _
 have g2:w.grownBy (w1.alloc (.cells #[.string y,.slice none 0 0,.slice none 0 0,.int .i64 0,.int .i64 0] 96)) (some rb):=grown_alloc g1 _
 obtain ⟨r0,r1,r2,r3,r4,rf⟩:=b1.five
 clear hA1 hA2 bA HONE
 go_wp2_with fail
 refine (pairs_any rb s b _ hm hb hr2 (o,c) HB _ (show Hid _ from rfl)).mono ?_
 rintro e w2 ⟨p2,n2,d2,rfl,hr3,hg3,HRO⟩
 have l3:=l2.keep hg3 (by simp;omega)
 have b3:=b2.keep hg3 (by simp;omega)
 have g3:=grown_trans g2 hg3
 have hz3:=hg3.size
 simp only [World.size_alloc] at hz3
 clear r0 r1 r2 r3 r4 rf b1 b2 l2 hr1 hr2 hg1 hg3 g1 g2
 obtain ⟨r0,r1,r2,r3,r4,rf⟩:=b3.five
 obtain ⟨l0,l1,l2,l4,l5,lf⟩:=l3.five
 clear b3 l3
 go_wp2
 have hc5:=five_cells (.string y) (.slice none 0 0) (.slice p2 n2 d2) (.int .i64 0) (.int .i64 0) (X:=(w2.setCell ⟨w1.heap.size,2,none⟩ (.slice p2 n2 d2))) ((World.cell?_setCell_other _ _ _ _ (fun e=>absurd (congrArg Addr.block e) (by show w1.heap.size≠w.heap.size;omega))).trans r0) ((World.cell?_setCell_other _ _ _ _ (fun e=>absurd (congrArg Addr.block e) (by show w1.heap.size≠w.heap.size;omega))).trans r1) ((World.cell?_setCell_other _ _ _ _ (fun e=>absurd (congrArg Addr.block e) (by show w1.heap.size≠w.heap.size;omega))).trans r2) ((World.cell?_setCell_other _ _ _ _ (fun e=>absurd (congrArg Addr.block e) (by show w1.heap.size≠w.heap.size;omega))).trans r3) ((World.cell?_setCell_other _ _ _ _ (fun e=>absurd (congrArg Addr.block e) (by show w1.heap.size≠w.heap.size;omega))).trans r4) _ rfl
 refine bodyPost_ret (res31 rfl rfl hc5) rfl ⟨_,_,_,_,_,_,_,_,rfl,?_,?_,?_⟩
 ·exact Rd.five (hr3.other (by omega) 2 (.slice p2 n2 d2)) (by omega) _ _ _ _ _
 ·exact grown_five (grown_set_new g3 (by omega) 2 (.slice p2 n2 d2)) (Nat.le_refl _) _ _ _ _ _
 ·intro ho
  have hro:=HRO.out ho
  refine ⟨World.ownsRow_nil _ _ _ _,?_,rfl,rfl⟩
  exact ownsRow_low (ownsRow_five (ownsRow_set_other hro (ne_of_base hro (by simp)) 2 _) (ne_of_base hro (by simp;omega)) _ _ _ _ _) (by simp;omega)
set_option maxRecDepth 100000 in
set_option maxHeartbeats 1000000 in
theorem step_syn (rb g:Nat) (s:ByteArray) (a:Nat) (names:List ByteArray) (w:World) (hm:s.size≤80) (ha:a≤s.size) (h:Rd rb s a w) (hN:Nms g names w) (hsz:∀ i (hi:i<names.length),(names[i]).size≤8) (hlen:names.length≤8) (res:Option Nat) (b:Nat) (HR:Hid (Pl.nm s a names 0 0=(res,b))) (hb:b≤s.size) (y:ByteArray) (ok1:Bool) (hy:(∃ i,∃ hi:i<names.length,res=some i∧y=names[i]∧ok1=true)∨(res=none∧y=⟨#[]⟩∧ok1=false)) (q1:(y.toList == [109,97,112,40])=false) (q2:(y.toList == [115,121,110,40])=true) (o:Bool) (c:Nat) (HB:Hid (Pl.lst s (Pl.pairP s) (s.size+1) b=(o,c))) :
  Calls Tryz.prog 123 #[.pointer (some ⟨rb,0,none⟩),.slice (some ⟨g,0,none⟩) names.length names.length] w fun e w'=>∃ p1 n1 d1 p2 n2 d2,∃ x z:Int,e=.returned (.tuple #[.agg #[.string y,.slice p1 n1 d1,.slice p2 n2 d2,.int .i64 x,.int .i64 z],.bool o])∧Rd rb s c w'∧w.grownBy w' (some rb)∧Hid (o=true→StO w.heap.size (Pl.spC s y 1 b) (.slice p1 n1 d1) (.slice p2 n2 d2) x z w'):=by
 have hrb:=h.lt
 have HONE:Hid (∀ W,Rd rb s a W→Nms g names W→Calls Tryz.prog 184 #[.pointer (some ⟨rb,0,none⟩),.slice (some ⟨g,0,none⟩) names.length names.length] W fun e w'=>e=.returned (.tuple #[.string y,.bool ok1])∧Rd rb s b w'∧W.grownBy w' (some rb)):=fun W hW hNW =>
  (oneOf_any rb g s a names W hm ha hW hNW hsz hlen res b HR).mono fun e w' ⟨he,hr,hg⟩=>⟨by
   rcases hy with ⟨i,hi,h1,h2,h3⟩ | ⟨h1,h2,h3⟩
   ·rcases he with ⟨j,hj,h4,h5⟩ | ⟨h4,_⟩
    ·obtain rfl:i=j:=by rw [h1] at h4;simpa using h4
     rw [h5,h2,h3]
    ·rw [h1] at h4;cases h4
   ·rcases he with ⟨j,hj,h4,h5⟩ | ⟨_,h5⟩
    ·rw [h1] at h4;cases h4
    ·rw [h5,h2,h3],hr,hg⟩
 have hA1:Rd rb s a (w.alloc (.cells #[.string ⟨#[]⟩,.slice none 0 0,.slice none 0 0,.int .i64 0,.int .i64 0] 96)):=h.of_below ((Below.refl _ w).alloc (Nat.le_refl _) _)
 have hA2:Nms g names (w.alloc (.cells #[.string ⟨#[]⟩,.slice none 0 0,.slice none 0 0,.int .i64 0,.int .i64 0] 96)):=hN.of_below ((Below.refl _ w).alloc (Nat.le_refl _) _)
 have bA:Blk w.heap.size 96 #[.string ⟨#[]⟩,.slice none 0 0,.slice none 0 0,.int .i64 0,.int .i64 0] (w.alloc (.cells #[.string ⟨#[]⟩,.slice none 0 0,.slice none 0 0,.int .i64 0,.int .i64 0] 96)):=heap_alloc_new w _
 clear hy hN
 go_enter Tryz.func123,Tryz.ntmps123
 go_wp2_with fail
 refine (HONE.out _ hA1 hA2).mono ?_
 rintro e w1 ⟨rfl,hr1,hg1⟩
 have hz1:=hg1.size
 simp only [World.size_alloc] at hz1
 have hzz:w.heap.size<w1.heap.size:=by omega
 have b1:=bA.keep hg1 (by simp;omega)
 have g1:w.grownBy w1 (some rb):=grown_trans (World.grownBy_alloc _ _ _) hg1
 have hr2:Rd rb s b (w1.alloc (.cells #[.string y,.slice none 0 0,.slice none 0 0,.int .i64 0,.int .i64 0] 96)):=hr1.of_below ((Below.refl _ w1).alloc (Nat.le_refl _) _)
 have b2:Blk w.heap.size 96 #[.string ⟨#[]⟩,.slice none 0 0,.slice none 0 0,.int .i64 0,.int .i64 0] (w1.alloc (.cells #[.string y,.slice none 0 0,.slice none 0 0,.int .i64 0,.int .i64 0] 96)):=b1.keep (World.grownBy_alloc w1 _ none) (by simp)
 have l2:Blk w1.heap.size 96 #[.string y,.slice none 0 0,.slice none 0 0,.int .i64 0,.int .i64 0] (w1.alloc (.cells #[.string y,.slice none 0 0,.slice none 0 0,.int .i64 0,.int .i64 0] 96)):=heap_alloc_new w1 _
 have g2:w.grownBy (w1.alloc (.cells #[.string y,.slice none 0 0,.slice none 0 0,.int .i64 0,.int .i64 0] 96)) (some rb):=grown_alloc g1 _
 obtain ⟨r0,r1,r2,r3,r4,rf⟩:=b1.five
 clear hA1 hA2 bA HONE
 go_wp2_with fail
 refine (pairs_any rb s b _ hm hb hr2 (o,c) HB _ (show Hid _ from rfl)).mono ?_
 rintro e w2 ⟨p2,n2,d2,rfl,hr3,hg3,HRO⟩
 have l3:=l2.keep hg3 (by simp;omega)
 have b3:=b2.keep hg3 (by simp;omega)
 have g3:=grown_trans g2 hg3
 have hz3:=hg3.size
 simp only [World.size_alloc] at hz3
 clear r0 r1 r2 r3 r4 rf b1 b2 l2 hr1 hr2 hg1 hg3 g1 g2
 obtain ⟨r0,r1,r2,r3,r4,rf⟩:=b3.five
 obtain ⟨l0,l1,l2,l4,l5,lf⟩:=l3.five
 clear b3 l3
 go_wp2
 have hc5:=five_cells (.string y) (.slice none 0 0) (.slice p2 n2 d2) (.int .i64 0) (.int .i64 0) (X:=(w2.setCell ⟨w1.heap.size,2,none⟩ (.slice p2 n2 d2))) ((World.cell?_setCell_other _ _ _ _ (fun e=>absurd (congrArg Addr.block e) (by show w1.heap.size≠w.heap.size;omega))).trans r0) ((World.cell?_setCell_other _ _ _ _ (fun e=>absurd (congrArg Addr.block e) (by show w1.heap.size≠w.heap.size;omega))).trans r1) ((World.cell?_setCell_other _ _ _ _ (fun e=>absurd (congrArg Addr.block e) (by show w1.heap.size≠w.heap.size;omega))).trans r2) ((World.cell?_setCell_other _ _ _ _ (fun e=>absurd (congrArg Addr.block e) (by show w1.heap.size≠w.heap.size;omega))).trans r3) ((World.cell?_setCell_other _ _ _ _ (fun e=>absurd (congrArg Addr.block e) (by show w1.heap.size≠w.heap.size;omega))).trans r4) _ rfl
 refine bodyPost_ret (res31 rfl rfl hc5) rfl ⟨_,_,_,_,_,_,_,_,rfl,?_,?_,?_⟩
 ·exact Rd.five (hr3.other (by omega) 2 (.slice p2 n2 d2)) (by omega) _ _ _ _ _
 ·exact grown_five (grown_set_new g3 (by omega) 2 (.slice p2 n2 d2)) (Nat.le_refl _) _ _ _ _ _
 ·intro ho
  have hro:=HRO.out ho
  refine ⟨World.ownsRow_nil _ _ _ _,?_,rfl,rfl⟩
  exact ownsRow_low (ownsRow_five (ownsRow_set_other hro (ne_of_base hro (by simp)) 2 _) (ne_of_base hro (by simp;omega)) _ _ _ _ _) (by simp;omega)
set_option maxRecDepth 100000 in
set_option maxHeartbeats 1000000 in
theorem step_stop (rb g:Nat) (s:ByteArray) (a:Nat) (names:List ByteArray) (w:World) (hm:s.size≤80) (ha:a≤s.size) (h:Rd rb s a w) (hN:Nms g names w) (hsz:∀ i (hi:i<names.length),(names[i]).size≤8) (hlen:names.length≤8) (res:Option Nat) (b:Nat) (HR:Hid (Pl.nm s a names 0 0=(res,b))) (hb:b≤s.size) (y:ByteArray) (ok1:Bool) (hy:(∃ i,∃ hi:i<names.length,res=some i∧y=names[i]∧ok1=true)∨(res=none∧y=⟨#[]⟩∧ok1=false)) (q1:(y.toList == [109,97,112,40])=false) (q2:(y.toList == [115,121,110,40])=false) (q3:(y.toList == [115,116,111,112,40])=true) (o:Bool) (c:Nat) (HB:Hid (Pl.lst s (Pl.word s) (s.size+1) b=(o,c))) :
  Calls Tryz.prog 123 #[.pointer (some ⟨rb,0,none⟩),.slice (some ⟨g,0,none⟩) names.length names.length] w fun e w'=>∃ p1 n1 d1 p2 n2 d2,∃ x z:Int,e=.returned (.tuple #[.agg #[.string y,.slice p1 n1 d1,.slice p2 n2 d2,.int .i64 x,.int .i64 z],.bool o])∧Rd rb s c w'∧w.grownBy w' (some rb)∧Hid (o=true→StO w.heap.size (Pl.spC s y 2 b) (.slice p1 n1 d1) (.slice p2 n2 d2) x z w'):=by
 have hrb:=h.lt
 have HONE:Hid (∀ W,Rd rb s a W→Nms g names W→Calls Tryz.prog 184 #[.pointer (some ⟨rb,0,none⟩),.slice (some ⟨g,0,none⟩) names.length names.length] W fun e w'=>e=.returned (.tuple #[.string y,.bool ok1])∧Rd rb s b w'∧W.grownBy w' (some rb)):=fun W hW hNW =>
  (oneOf_any rb g s a names W hm ha hW hNW hsz hlen res b HR).mono fun e w' ⟨he,hr,hg⟩=>⟨by
   rcases hy with ⟨i,hi,h1,h2,h3⟩ | ⟨h1,h2,h3⟩
   ·rcases he with ⟨j,hj,h4,h5⟩ | ⟨h4,_⟩
    ·obtain rfl:i=j:=by rw [h1] at h4;simpa using h4
     rw [h5,h2,h3]
    ·rw [h1] at h4;cases h4
   ·rcases he with ⟨j,hj,h4,h5⟩ | ⟨_,h5⟩
    ·rw [h1] at h4;cases h4
    ·rw [h5,h2,h3],hr,hg⟩
 have hA1:Rd rb s a (w.alloc (.cells #[.string ⟨#[]⟩,.slice none 0 0,.slice none 0 0,.int .i64 0,.int .i64 0] 96)):=h.of_below ((Below.refl _ w).alloc (Nat.le_refl _) _)
 have hA2:Nms g names (w.alloc (.cells #[.string ⟨#[]⟩,.slice none 0 0,.slice none 0 0,.int .i64 0,.int .i64 0] 96)):=hN.of_below ((Below.refl _ w).alloc (Nat.le_refl _) _)
 have bA:Blk w.heap.size 96 #[.string ⟨#[]⟩,.slice none 0 0,.slice none 0 0,.int .i64 0,.int .i64 0] (w.alloc (.cells #[.string ⟨#[]⟩,.slice none 0 0,.slice none 0 0,.int .i64 0,.int .i64 0] 96)):=heap_alloc_new w _
 clear hy hN
 go_enter Tryz.func123,Tryz.ntmps123
 go_wp2_with fail
 refine (HONE.out _ hA1 hA2).mono ?_
 rintro e w1 ⟨rfl,hr1,hg1⟩
 have hz1:=hg1.size
 simp only [World.size_alloc] at hz1
 have hzz:w.heap.size<w1.heap.size:=by omega
 have b1:=bA.keep hg1 (by simp;omega)
 have g1:w.grownBy w1 (some rb):=grown_trans (World.grownBy_alloc _ _ _) hg1
 have hr2:Rd rb s b (w1.alloc (.cells #[.string y,.slice none 0 0,.slice none 0 0,.int .i64 0,.int .i64 0] 96)):=hr1.of_below ((Below.refl _ w1).alloc (Nat.le_refl _) _)
 have b2:Blk w.heap.size 96 #[.string ⟨#[]⟩,.slice none 0 0,.slice none 0 0,.int .i64 0,.int .i64 0] (w1.alloc (.cells #[.string y,.slice none 0 0,.slice none 0 0,.int .i64 0,.int .i64 0] 96)):=b1.keep (World.grownBy_alloc w1 _ none) (by simp)
 have l2:Blk w1.heap.size 96 #[.string y,.slice none 0 0,.slice none 0 0,.int .i64 0,.int .i64 0] (w1.alloc (.cells #[.string y,.slice none 0 0,.slice none 0 0,.int .i64 0,.int .i64 0] 96)):=heap_alloc_new w1 _
 have g2:w.grownBy (w1.alloc (.cells #[.string y,.slice none 0 0,.slice none 0 0,.int .i64 0,.int .i64 0] 96)) (some rb):=grown_alloc g1 _
 obtain ⟨r0,r1,r2,r3,r4,rf⟩:=b1.five
 clear hA1 hA2 bA HONE
 go_wp2_with fail
 refine (words_any rb s b _ hm hb hr2 (o,c) HB _ (show Hid _ from rfl)).mono ?_
 rintro e w2 ⟨p1,n1,d1,rfl,hr3,hg3,HRO⟩
 have l3:=l2.keep hg3 (by simp;omega)
 have b3:=b2.keep hg3 (by simp;omega)
 have g3:=grown_trans g2 hg3
 have hz3:=hg3.size
 simp only [World.size_alloc] at hz3
 clear r0 r1 r2 r3 r4 rf b1 b2 l2 hr1 hr2 hg1 hg3 g1 g2
 obtain ⟨r0,r1,r2,r3,r4,rf⟩:=b3.five
 obtain ⟨l0,l1,l2,l4,l5,lf⟩:=l3.five
 clear b3 l3
 go_wp2
 have hc5:=five_cells (.string y) (.slice p1 n1 d1) (.slice none 0 0) (.int .i64 0) (.int .i64 0) (X:=(w2.setCell ⟨w1.heap.size,1,none⟩ (.slice p1 n1 d1))) ((World.cell?_setCell_other _ _ _ _ (fun e=>absurd (congrArg Addr.block e) (by show w1.heap.size≠w.heap.size;omega))).trans r0) ((World.cell?_setCell_other _ _ _ _ (fun e=>absurd (congrArg Addr.block e) (by show w1.heap.size≠w.heap.size;omega))).trans r1) ((World.cell?_setCell_other _ _ _ _ (fun e=>absurd (congrArg Addr.block e) (by show w1.heap.size≠w.heap.size;omega))).trans r2) ((World.cell?_setCell_other _ _ _ _ (fun e=>absurd (congrArg Addr.block e) (by show w1.heap.size≠w.heap.size;omega))).trans r3) ((World.cell?_setCell_other _ _ _ _ (fun e=>absurd (congrArg Addr.block e) (by show w1.heap.size≠w.heap.size;omega))).trans r4) _ rfl
 refine bodyPost_ret (res31 rfl rfl hc5) rfl ⟨_,_,_,_,_,_,_,_,rfl,?_,?_,?_⟩
 ·exact Rd.five (hr3.other (by omega) 1 (.slice p1 n1 d1)) (by omega) _ _ _ _ _
 ·exact grown_five (grown_set_new g3 (by omega) 1 (.slice p1 n1 d1)) (Nat.le_refl _) _ _ _ _ _
 ·intro ho
  have hro:=HRO.out ho
  refine ⟨?_,World.ownsRow_nil _ _ _ _,rfl,rfl⟩
  exact ownsRow_low (ownsRow_five (ownsRow_set_other hro (ne_of_base hro (by simp)) 1 _) (ne_of_base hro (by simp;omega)) _ _ _ _ _) (by simp;omega)
end Go.Proofs.YtcmgclckknpecaaGreatDoor
namespace Go.Proofs.YtcmgclckknpecaaGreatDoor
open Go.RowKit
set_option maxRecDepth 100000 in
set_option maxHeartbeats 1000000 in
theorem step_len (rb g:Nat) (s:ByteArray) (a:Nat) (names:List ByteArray) (w:World) (hm:s.size≤80) (ha:a≤s.size) (h:Rd rb s a w) (hN:Nms g names w) (hsz:∀ i (hi:i<names.length),(names[i]).size≤8) (hlen:names.length≤8) (res:Option Nat) (b:Nat) (HR:Hid (Pl.nm s a names 0 0=(res,b))) (hb:b≤s.size) (y:ByteArray) (ok1:Bool) (hy:(∃ i,∃ hi:i<names.length,res=some i∧y=names[i]∧ok1=true)∨(res=none∧y=⟨#[]⟩∧ok1=false)) (q1:(y.toList == [109,97,112,40])=false) (q2:(y.toList == [115,121,110,40])=false) (q3:(y.toList == [115,116,111,112,40])=false) (q4:(y.toList == [108,101,110,40])=true) (o:Bool) (c:Nat) (HB:Hid (Pl.bnds s b=(o,c))) :
  Calls Tryz.prog 123 #[.pointer (some ⟨rb,0,none⟩),.slice (some ⟨g,0,none⟩) names.length names.length] w fun e w'=>∃ p1 n1 d1 p2 n2 d2,∃ x z:Int,e=.returned (.tuple #[.agg #[.string y,.slice p1 n1 d1,.slice p2 n2 d2,.int .i64 x,.int .i64 z],.bool o])∧Rd rb s c w'∧w.grownBy w' (some rb)∧Hid (o=true→StO w.heap.size (Pl.spC s y 3 b) (.slice p1 n1 d1) (.slice p2 n2 d2) x z w'):=by
 have hrb:=h.lt
 have HONE:Hid (∀ W,Rd rb s a W→Nms g names W→Calls Tryz.prog 184 #[.pointer (some ⟨rb,0,none⟩),.slice (some ⟨g,0,none⟩) names.length names.length] W fun e w'=>e=.returned (.tuple #[.string y,.bool ok1])∧Rd rb s b w'∧W.grownBy w' (some rb)):=fun W hW hNW =>
  (oneOf_any rb g s a names W hm ha hW hNW hsz hlen res b HR).mono fun e w' ⟨he,hr,hg⟩=>⟨by
   rcases hy with ⟨i,hi,h1,h2,h3⟩ | ⟨h1,h2,h3⟩
   ·rcases he with ⟨j,hj,h4,h5⟩ | ⟨h4,_⟩
    ·obtain rfl:i=j:=by rw [h1] at h4;simpa using h4
     rw [h5,h2,h3]
    ·rw [h1] at h4;cases h4
   ·rcases he with ⟨j,hj,h4,h5⟩ | ⟨_,h5⟩
    ·rw [h1] at h4;cases h4
    ·rw [h5,h2,h3],hr,hg⟩
 have hA1:Rd rb s a (w.alloc (.cells #[.string ⟨#[]⟩,.slice none 0 0,.slice none 0 0,.int .i64 0,.int .i64 0] 96)):=h.of_below ((Below.refl _ w).alloc (Nat.le_refl _) _)
 have hA2:Nms g names (w.alloc (.cells #[.string ⟨#[]⟩,.slice none 0 0,.slice none 0 0,.int .i64 0,.int .i64 0] 96)):=hN.of_below ((Below.refl _ w).alloc (Nat.le_refl _) _)
 have bA:Blk w.heap.size 96 #[.string ⟨#[]⟩,.slice none 0 0,.slice none 0 0,.int .i64 0,.int .i64 0] (w.alloc (.cells #[.string ⟨#[]⟩,.slice none 0 0,.slice none 0 0,.int .i64 0,.int .i64 0] 96)):=heap_alloc_new w _
 clear hy hN
 go_enter Tryz.func123,Tryz.ntmps123
 go_wp2_with fail
 refine (HONE.out _ hA1 hA2).mono ?_
 rintro e w1 ⟨rfl,hr1,hg1⟩
 have hz1:=hg1.size
 simp only [World.size_alloc] at hz1
 have hzz:w.heap.size<w1.heap.size:=by omega
 have b1:=bA.keep hg1 (by simp;omega)
 have g1:w.grownBy w1 (some rb):=grown_trans (World.grownBy_alloc _ _ _) hg1
 have hr2:Rd rb s b (w1.alloc (.cells #[.string y,.slice none 0 0,.slice none 0 0,.int .i64 0,.int .i64 0] 96)):=hr1.of_below ((Below.refl _ w1).alloc (Nat.le_refl _) _)
 have b2:Blk w.heap.size 96 #[.string ⟨#[]⟩,.slice none 0 0,.slice none 0 0,.int .i64 0,.int .i64 0] (w1.alloc (.cells #[.string y,.slice none 0 0,.slice none 0 0,.int .i64 0,.int .i64 0] 96)):=b1.keep (World.grownBy_alloc w1 _ none) (by simp)
 have l2:Blk w1.heap.size 96 #[.string y,.slice none 0 0,.slice none 0 0,.int .i64 0,.int .i64 0] (w1.alloc (.cells #[.string y,.slice none 0 0,.slice none 0 0,.int .i64 0,.int .i64 0] 96)):=heap_alloc_new w1 _
 have g2:w.grownBy (w1.alloc (.cells #[.string y,.slice none 0 0,.slice none 0 0,.int .i64 0,.int .i64 0] 96)) (some rb):=grown_alloc g1 _
 obtain ⟨r0,r1,r2,r3,r4,rf⟩:=b1.five
 clear hA1 hA2 bA HONE
 go_wp2_with fail
 have hbn:=bounds_any rb s b _ hm hb hr2
 rw [HB.out] at hbn
 refine hbn.mono ?_
 rintro e w2 ⟨x,z,rfl,hr3,hg3,HRO⟩
 have l3:=l2.keep hg3 (by simp;omega)
 have b3:=b2.keep hg3 (by simp;omega)
 have g3:=grown_trans g2 hg3
 have hz3:=hg3.size
 simp only [World.size_alloc] at hz3
 clear r0 r1 r2 r3 r4 rf b1 b2 l2 hr1 hr2 hg1 hg3 g1 g2
 obtain ⟨r0,r1,r2,r3,r4,rf⟩:=b3.five
 obtain ⟨l0,l1,l2,l4,l5,lf⟩:=l3.five
 clear b3 l3
 go_wp2
 have hc5:=five_cells (.string y) (.slice none 0 0) (.slice none 0 0) (.int .i64 x) (.int .i64 z) (X:=((w2.setCell ⟨w1.heap.size,3,none⟩ (.int .i64 x)).setCell ⟨w1.heap.size,4,none⟩ (.int .i64 z))) ((World.cell?_setCell_other _ _ _ _ (fun e=>absurd (congrArg Addr.block e) (by show w1.heap.size≠w.heap.size;omega))).trans ((World.cell?_setCell_other _ _ _ _ (fun e=>absurd (congrArg Addr.block e) (by show w1.heap.size≠w.heap.size;omega))).trans r0)) ((World.cell?_setCell_other _ _ _ _ (fun e=>absurd (congrArg Addr.block e) (by show w1.heap.size≠w.heap.size;omega))).trans ((World.cell?_setCell_other _ _ _ _ (fun e=>absurd (congrArg Addr.block e) (by show w1.heap.size≠w.heap.size;omega))).trans r1)) ((World.cell?_setCell_other _ _ _ _ (fun e=>absurd (congrArg Addr.block e) (by show w1.heap.size≠w.heap.size;omega))).trans ((World.cell?_setCell_other _ _ _ _ (fun e=>absurd (congrArg Addr.block e) (by show w1.heap.size≠w.heap.size;omega))).trans r2)) ((World.cell?_setCell_other _ _ _ _ (fun e=>absurd (congrArg Addr.block e) (by show w1.heap.size≠w.heap.size;omega))).trans ((World.cell?_setCell_other _ _ _ _ (fun e=>absurd (congrArg Addr.block e) (by show w1.heap.size≠w.heap.size;omega))).trans r3)) ((World.cell?_setCell_other _ _ _ _ (fun e=>absurd (congrArg Addr.block e) (by show w1.heap.size≠w.heap.size;omega))).trans ((World.cell?_setCell_other _ _ _ _ (fun e=>absurd (congrArg Addr.block e) (by show w1.heap.size≠w.heap.size;omega))).trans r4)) _ rfl
 refine bodyPost_ret (res31 rfl rfl hc5) rfl ⟨_,_,_,_,_,_,_,_,rfl,?_,?_,?_⟩
 ·exact Rd.five ((hr3.other (by omega) 3 (.int .i64 x)).other (by omega) 4 (.int .i64 z)) (by omega) _ _ _ _ _
 ·exact grown_five (grown_set_new (grown_set_new g3 (by omega) 3 (.int .i64 x)) (by omega) 4 (.int .i64 z)) (Nat.le_refl _) _ _ _ _ _
 ·intro ho
  have hro:=HRO.out ho
  exact ⟨World.ownsRow_nil _ _ _ _,World.ownsRow_nil _ _ _ _,hro.1,hro.2⟩
set_option maxRecDepth 100000 in
set_option maxHeartbeats 1000000 in
theorem step_gram (rb g:Nat) (s:ByteArray) (a:Nat) (names:List ByteArray) (w:World) (hm:s.size≤80) (ha:a≤s.size) (h:Rd rb s a w) (hN:Nms g names w) (hsz:∀ i (hi:i<names.length),(names[i]).size≤8) (hlen:names.length≤8) (res:Option Nat) (b:Nat) (HR:Hid (Pl.nm s a names 0 0=(res,b))) (hb:b≤s.size) (y:ByteArray) (ok1:Bool) (hy:(∃ i,∃ hi:i<names.length,res=some i∧y=names[i]∧ok1=true)∨(res=none∧y=⟨#[]⟩∧ok1=false)) (q1:(y.toList == [109,97,112,40])=false) (q2:(y.toList == [115,121,110,40])=false) (q3:(y.toList == [115,116,111,112,40])=false) (q4:(y.toList == [108,101,110,40])=false) (q5:(y.toList == [103,114,97,109,40])=true) (o:Bool) (c:Nat) (HB:Hid (Pl.bnds s b=(o,c))) :
  Calls Tryz.prog 123 #[.pointer (some ⟨rb,0,none⟩),.slice (some ⟨g,0,none⟩) names.length names.length] w fun e w'=>∃ p1 n1 d1 p2 n2 d2,∃ x z:Int,e=.returned (.tuple #[.agg #[.string y,.slice p1 n1 d1,.slice p2 n2 d2,.int .i64 x,.int .i64 z],.bool o])∧Rd rb s c w'∧w.grownBy w' (some rb)∧Hid (o=true→StO w.heap.size (Pl.spC s y 3 b) (.slice p1 n1 d1) (.slice p2 n2 d2) x z w'):=by
 have hrb:=h.lt
 have HONE:Hid (∀ W,Rd rb s a W→Nms g names W→Calls Tryz.prog 184 #[.pointer (some ⟨rb,0,none⟩),.slice (some ⟨g,0,none⟩) names.length names.length] W fun e w'=>e=.returned (.tuple #[.string y,.bool ok1])∧Rd rb s b w'∧W.grownBy w' (some rb)):=fun W hW hNW =>
  (oneOf_any rb g s a names W hm ha hW hNW hsz hlen res b HR).mono fun e w' ⟨he,hr,hg⟩=>⟨by
   rcases hy with ⟨i,hi,h1,h2,h3⟩ | ⟨h1,h2,h3⟩
   ·rcases he with ⟨j,hj,h4,h5⟩ | ⟨h4,_⟩
    ·obtain rfl:i=j:=by rw [h1] at h4;simpa using h4
     rw [h5,h2,h3]
    ·rw [h1] at h4;cases h4
   ·rcases he with ⟨j,hj,h4,h5⟩ | ⟨_,h5⟩
    ·rw [h1] at h4;cases h4
    ·rw [h5,h2,h3],hr,hg⟩
 have hA1:Rd rb s a (w.alloc (.cells #[.string ⟨#[]⟩,.slice none 0 0,.slice none 0 0,.int .i64 0,.int .i64 0] 96)):=h.of_below ((Below.refl _ w).alloc (Nat.le_refl _) _)
 have hA2:Nms g names (w.alloc (.cells #[.string ⟨#[]⟩,.slice none 0 0,.slice none 0 0,.int .i64 0,.int .i64 0] 96)):=hN.of_below ((Below.refl _ w).alloc (Nat.le_refl _) _)
 have bA:Blk w.heap.size 96 #[.string ⟨#[]⟩,.slice none 0 0,.slice none 0 0,.int .i64 0,.int .i64 0] (w.alloc (.cells #[.string ⟨#[]⟩,.slice none 0 0,.slice none 0 0,.int .i64 0,.int .i64 0] 96)):=heap_alloc_new w _
 clear hy hN
 go_enter Tryz.func123,Tryz.ntmps123
 go_wp2_with fail
 refine (HONE.out _ hA1 hA2).mono ?_
 rintro e w1 ⟨rfl,hr1,hg1⟩
 have hz1:=hg1.size
 simp only [World.size_alloc] at hz1
 have hzz:w.heap.size<w1.heap.size:=by omega
 have b1:=bA.keep hg1 (by simp;omega)
 have g1:w.grownBy w1 (some rb):=grown_trans (World.grownBy_alloc _ _ _) hg1
 have hr2:Rd rb s b (w1.alloc (.cells #[.string y,.slice none 0 0,.slice none 0 0,.int .i64 0,.int .i64 0] 96)):=hr1.of_below ((Below.refl _ w1).alloc (Nat.le_refl _) _)
 have b2:Blk w.heap.size 96 #[.string ⟨#[]⟩,.slice none 0 0,.slice none 0 0,.int .i64 0,.int .i64 0] (w1.alloc (.cells #[.string y,.slice none 0 0,.slice none 0 0,.int .i64 0,.int .i64 0] 96)):=b1.keep (World.grownBy_alloc w1 _ none) (by simp)
 have l2:Blk w1.heap.size 96 #[.string y,.slice none 0 0,.slice none 0 0,.int .i64 0,.int .i64 0] (w1.alloc (.cells #[.string y,.slice none 0 0,.slice none 0 0,.int .i64 0,.int .i64 0] 96)):=heap_alloc_new w1 _
 have g2:w.grownBy (w1.alloc (.cells #[.string y,.slice none 0 0,.slice none 0 0,.int .i64 0,.int .i64 0] 96)) (some rb):=grown_alloc g1 _
 obtain ⟨r0,r1,r2,r3,r4,rf⟩:=b1.five
 clear hA1 hA2 bA HONE
 go_wp2_with fail
 have hbn:=bounds_any rb s b _ hm hb hr2
 rw [HB.out] at hbn
 refine hbn.mono ?_
 rintro e w2 ⟨x,z,rfl,hr3,hg3,HRO⟩
 have l3:=l2.keep hg3 (by simp;omega)
 have b3:=b2.keep hg3 (by simp;omega)
 have g3:=grown_trans g2 hg3
 have hz3:=hg3.size
 simp only [World.size_alloc] at hz3
 clear r0 r1 r2 r3 r4 rf b1 b2 l2 hr1 hr2 hg1 hg3 g1 g2
 obtain ⟨r0,r1,r2,r3,r4,rf⟩:=b3.five
 obtain ⟨l0,l1,l2,l4,l5,lf⟩:=l3.five
 clear b3 l3
 go_wp2
 have hc5:=five_cells (.string y) (.slice none 0 0) (.slice none 0 0) (.int .i64 x) (.int .i64 z) (X:=((w2.setCell ⟨w1.heap.size,3,none⟩ (.int .i64 x)).setCell ⟨w1.heap.size,4,none⟩ (.int .i64 z))) ((World.cell?_setCell_other _ _ _ _ (fun e=>absurd (congrArg Addr.block e) (by show w1.heap.size≠w.heap.size;omega))).trans ((World.cell?_setCell_other _ _ _ _ (fun e=>absurd (congrArg Addr.block e) (by show w1.heap.size≠w.heap.size;omega))).trans r0)) ((World.cell?_setCell_other _ _ _ _ (fun e=>absurd (congrArg Addr.block e) (by show w1.heap.size≠w.heap.size;omega))).trans ((World.cell?_setCell_other _ _ _ _ (fun e=>absurd (congrArg Addr.block e) (by show w1.heap.size≠w.heap.size;omega))).trans r1)) ((World.cell?_setCell_other _ _ _ _ (fun e=>absurd (congrArg Addr.block e) (by show w1.heap.size≠w.heap.size;omega))).trans ((World.cell?_setCell_other _ _ _ _ (fun e=>absurd (congrArg Addr.block e) (by show w1.heap.size≠w.heap.size;omega))).trans r2)) ((World.cell?_setCell_other _ _ _ _ (fun e=>absurd (congrArg Addr.block e) (by show w1.heap.size≠w.heap.size;omega))).trans ((World.cell?_setCell_other _ _ _ _ (fun e=>absurd (congrArg Addr.block e) (by show w1.heap.size≠w.heap.size;omega))).trans r3)) ((World.cell?_setCell_other _ _ _ _ (fun e=>absurd (congrArg Addr.block e) (by show w1.heap.size≠w.heap.size;omega))).trans ((World.cell?_setCell_other _ _ _ _ (fun e=>absurd (congrArg Addr.block e) (by show w1.heap.size≠w.heap.size;omega))).trans r4)) _ rfl
 refine bodyPost_ret (res31 rfl rfl hc5) rfl ⟨_,_,_,_,_,_,_,_,rfl,?_,?_,?_⟩
 ·exact Rd.five ((hr3.other (by omega) 3 (.int .i64 x)).other (by omega) 4 (.int .i64 z)) (by omega) _ _ _ _ _
 ·exact grown_five (grown_set_new (grown_set_new g3 (by omega) 3 (.int .i64 x)) (by omega) 4 (.int .i64 z)) (Nat.le_refl _) _ _ _ _ _
 ·intro ho
  have hro:=HRO.out ho
  exact ⟨World.ownsRow_nil _ _ _ _,World.ownsRow_nil _ _ _ _,hro.1,hro.2⟩
set_option maxRecDepth 100000 in
set_option maxHeartbeats 1000000 in
theorem step_edge (rb g:Nat) (s:ByteArray) (a:Nat) (names:List ByteArray) (w:World) (hm:s.size≤80) (ha:a≤s.size) (h:Rd rb s a w) (hN:Nms g names w) (hsz:∀ i (hi:i<names.length),(names[i]).size≤8) (hlen:names.length≤8) (res:Option Nat) (b:Nat) (HR:Hid (Pl.nm s a names 0 0=(res,b))) (hb:b≤s.size) (y:ByteArray) (ok1:Bool) (hy:(∃ i,∃ hi:i<names.length,res=some i∧y=names[i]∧ok1=true)∨(res=none∧y=⟨#[]⟩∧ok1=false)) (q1:(y.toList == [109,97,112,40])=false) (q2:(y.toList == [115,121,110,40])=false) (q3:(y.toList == [115,116,111,112,40])=false) (q4:(y.toList == [108,101,110,40])=false) (q5:(y.toList == [103,114,97,109,40])=false) (q6:(y.toList == [101,100,103,101,40])=true) (o:Bool) (c:Nat) (HB:Hid (Pl.bnds s b=(o,c))) :
  Calls Tryz.prog 123 #[.pointer (some ⟨rb,0,none⟩),.slice (some ⟨g,0,none⟩) names.length names.length] w fun e w'=>∃ p1 n1 d1 p2 n2 d2,∃ x z:Int,e=.returned (.tuple #[.agg #[.string y,.slice p1 n1 d1,.slice p2 n2 d2,.int .i64 x,.int .i64 z],.bool o])∧Rd rb s c w'∧w.grownBy w' (some rb)∧Hid (o=true→StO w.heap.size (Pl.spC s y 3 b) (.slice p1 n1 d1) (.slice p2 n2 d2) x z w'):=by
 have hrb:=h.lt
 have HONE:Hid (∀ W,Rd rb s a W→Nms g names W→Calls Tryz.prog 184 #[.pointer (some ⟨rb,0,none⟩),.slice (some ⟨g,0,none⟩) names.length names.length] W fun e w'=>e=.returned (.tuple #[.string y,.bool ok1])∧Rd rb s b w'∧W.grownBy w' (some rb)):=fun W hW hNW =>
  (oneOf_any rb g s a names W hm ha hW hNW hsz hlen res b HR).mono fun e w' ⟨he,hr,hg⟩=>⟨by
   rcases hy with ⟨i,hi,h1,h2,h3⟩ | ⟨h1,h2,h3⟩
   ·rcases he with ⟨j,hj,h4,h5⟩ | ⟨h4,_⟩
    ·obtain rfl:i=j:=by rw [h1] at h4;simpa using h4
     rw [h5,h2,h3]
    ·rw [h1] at h4;cases h4
   ·rcases he with ⟨j,hj,h4,h5⟩ | ⟨_,h5⟩
    ·rw [h1] at h4;cases h4
    ·rw [h5,h2,h3],hr,hg⟩
 have hA1:Rd rb s a (w.alloc (.cells #[.string ⟨#[]⟩,.slice none 0 0,.slice none 0 0,.int .i64 0,.int .i64 0] 96)):=h.of_below ((Below.refl _ w).alloc (Nat.le_refl _) _)
 have hA2:Nms g names (w.alloc (.cells #[.string ⟨#[]⟩,.slice none 0 0,.slice none 0 0,.int .i64 0,.int .i64 0] 96)):=hN.of_below ((Below.refl _ w).alloc (Nat.le_refl _) _)
 have bA:Blk w.heap.size 96 #[.string ⟨#[]⟩,.slice none 0 0,.slice none 0 0,.int .i64 0,.int .i64 0] (w.alloc (.cells #[.string ⟨#[]⟩,.slice none 0 0,.slice none 0 0,.int .i64 0,.int .i64 0] 96)):=heap_alloc_new w _
 clear hy hN
 go_enter Tryz.func123,Tryz.ntmps123
 go_wp2_with fail
 refine (HONE.out _ hA1 hA2).mono ?_
 rintro e w1 ⟨rfl,hr1,hg1⟩
 have hz1:=hg1.size
 simp only [World.size_alloc] at hz1
 have hzz:w.heap.size<w1.heap.size:=by omega
 have b1:=bA.keep hg1 (by simp;omega)
 have g1:w.grownBy w1 (some rb):=grown_trans (World.grownBy_alloc _ _ _) hg1
 have hr2:Rd rb s b (w1.alloc (.cells #[.string y,.slice none 0 0,.slice none 0 0,.int .i64 0,.int .i64 0] 96)):=hr1.of_below ((Below.refl _ w1).alloc (Nat.le_refl _) _)
 have b2:Blk w.heap.size 96 #[.string ⟨#[]⟩,.slice none 0 0,.slice none 0 0,.int .i64 0,.int .i64 0] (w1.alloc (.cells #[.string y,.slice none 0 0,.slice none 0 0,.int .i64 0,.int .i64 0] 96)):=b1.keep (World.grownBy_alloc w1 _ none) (by simp)
 have l2:Blk w1.heap.size 96 #[.string y,.slice none 0 0,.slice none 0 0,.int .i64 0,.int .i64 0] (w1.alloc (.cells #[.string y,.slice none 0 0,.slice none 0 0,.int .i64 0,.int .i64 0] 96)):=heap_alloc_new w1 _
 have g2:w.grownBy (w1.alloc (.cells #[.string y,.slice none 0 0,.slice none 0 0,.int .i64 0,.int .i64 0] 96)) (some rb):=grown_alloc g1 _
 obtain ⟨r0,r1,r2,r3,r4,rf⟩:=b1.five
 clear hA1 hA2 bA HONE
 go_wp2_with fail
 have hbn:=bounds_any rb s b _ hm hb hr2
 rw [HB.out] at hbn
 refine hbn.mono ?_
 rintro e w2 ⟨x,z,rfl,hr3,hg3,HRO⟩
 have l3:=l2.keep hg3 (by simp;omega)
 have b3:=b2.keep hg3 (by simp;omega)
 have g3:=grown_trans g2 hg3
 have hz3:=hg3.size
 simp only [World.size_alloc] at hz3
 clear r0 r1 r2 r3 r4 rf b1 b2 l2 hr1 hr2 hg1 hg3 g1 g2
 obtain ⟨r0,r1,r2,r3,r4,rf⟩:=b3.five
 obtain ⟨l0,l1,l2,l4,l5,lf⟩:=l3.five
 clear b3 l3
 go_wp2
 have hc5:=five_cells (.string y) (.slice none 0 0) (.slice none 0 0) (.int .i64 x) (.int .i64 z) (X:=((w2.setCell ⟨w1.heap.size,3,none⟩ (.int .i64 x)).setCell ⟨w1.heap.size,4,none⟩ (.int .i64 z))) ((World.cell?_setCell_other _ _ _ _ (fun e=>absurd (congrArg Addr.block e) (by show w1.heap.size≠w.heap.size;omega))).trans ((World.cell?_setCell_other _ _ _ _ (fun e=>absurd (congrArg Addr.block e) (by show w1.heap.size≠w.heap.size;omega))).trans r0)) ((World.cell?_setCell_other _ _ _ _ (fun e=>absurd (congrArg Addr.block e) (by show w1.heap.size≠w.heap.size;omega))).trans ((World.cell?_setCell_other _ _ _ _ (fun e=>absurd (congrArg Addr.block e) (by show w1.heap.size≠w.heap.size;omega))).trans r1)) ((World.cell?_setCell_other _ _ _ _ (fun e=>absurd (congrArg Addr.block e) (by show w1.heap.size≠w.heap.size;omega))).trans ((World.cell?_setCell_other _ _ _ _ (fun e=>absurd (congrArg Addr.block e) (by show w1.heap.size≠w.heap.size;omega))).trans r2)) ((World.cell?_setCell_other _ _ _ _ (fun e=>absurd (congrArg Addr.block e) (by show w1.heap.size≠w.heap.size;omega))).trans ((World.cell?_setCell_other _ _ _ _ (fun e=>absurd (congrArg Addr.block e) (by show w1.heap.size≠w.heap.size;omega))).trans r3)) ((World.cell?_setCell_other _ _ _ _ (fun e=>absurd (congrArg Addr.block e) (by show w1.heap.size≠w.heap.size;omega))).trans ((World.cell?_setCell_other _ _ _ _ (fun e=>absurd (congrArg Addr.block e) (by show w1.heap.size≠w.heap.size;omega))).trans r4)) _ rfl
 refine bodyPost_ret (res31 rfl rfl hc5) rfl ⟨_,_,_,_,_,_,_,_,rfl,?_,?_,?_⟩
 ·exact Rd.five ((hr3.other (by omega) 3 (.int .i64 x)).other (by omega) 4 (.int .i64 z)) (by omega) _ _ _ _ _
 ·exact grown_five (grown_set_new (grown_set_new g3 (by omega) 3 (.int .i64 x)) (by omega) 4 (.int .i64 z)) (Nat.le_refl _) _ _ _ _ _
 ·intro ho
  have hro:=HRO.out ho
  exact ⟨World.ownsRow_nil _ _ _ _,World.ownsRow_nil _ _ _ _,hro.1,hro.2⟩
end Go.Proofs.YtcmgclckknpecaaGreatDoor
