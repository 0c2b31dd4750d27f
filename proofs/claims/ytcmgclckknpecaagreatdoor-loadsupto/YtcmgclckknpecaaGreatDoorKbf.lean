import Derived.Test.YtcmgclckknpecaaGreatDoorKat
import Derived.Test.YtcmgclckknpecaaGreatDoorKbe
import Derived.Test.YtcmgclckknpecaaGreatDoorKbc
import Derived.Test.YtcmgclckknpecaaGreatDoorKbd
namespace Go.Proofs.YtcmgclckknpecaaGreatDoor
open Go.RowKit
theorem chn_count (s:ByteArray):∀ (m:Nat) (cut:Bool) (a c:Nat),(Pl.chn s m cut a c).2≤c+m
 | 0,_,a,c=>by simp [Pl.chn]
 | m+1,cut,a,c=>by
  obtain ⟨⟨res,b⟩,hnm⟩:∃ r,Pl.nm s a (if cut=true then Pl.lates else Pl.starts) 0 0=r:=⟨_,rfl⟩
  cases res with
  | none=>rw [chn_none s m cut a c b hnm];exact Nat.le_add_right c (m+1)
  | some i =>
   obtain ⟨⟨o,d⟩,hbd⟩:∃ r,Pl.body s (if cut=true then Pl.kindL i else Pl.kindS i) b=r:=⟨_,rfl⟩
   rw [chn_some s m cut a c b i o d hnm hbd]
   have ih:=chn_count s m (cut || decide (3≤i)) (d+1) (c+1)
   by_cases h1:o=true
   ·rw [if_pos h1]
    by_cases h2:(cut=true∨3≤i)∧d=s.size
    ·rw [if_pos h2];show c+1≤_;omega
    ·rw [if_neg h2]
     by_cases h3:Pl.byteIn s 59 59 d=true
     ·rw [if_pos h3];omega
     ·rw [if_neg h3];show c+1≤_;omega
   ·rw [if_neg h1];show c+1≤_;omega
theorem stages_any (p1:Option Addr) (n1 c1:Nat) (t:ByteArray) (p2:Option Addr) (n2 c2:Nat) (p3:Option Addr) (n3 c3:Nat) (x z:Int) (p4:Option Addr) (n4 c4:Nat) (w:World) (hb:n1+1+n4≤1000) :
  Calls Tryz.prog 64 #[.agg #[.slice p1 n1 c1,.string t,.slice p2 n2 c2,.slice p3 n3 c3,.int .i64 x,.int .i64 z,.slice p4 n4 c4]] w fun e w'=>e=.returned (.int .i64 ((n1:Int)+1+(n4:Int)))∧Below w.heap.size w w':=by
 go_enter Tryz.func64,Tryz.ntmps64
 go_wp2
 go_ret
 exact ⟨rfl,(Below.refl _ _).alloc (Nat.le_refl _) _⟩
end Go.Proofs.YtcmgclckknpecaaGreatDoor
namespace Go.Proofs.YtcmgclckknpecaaGreatDoor
open Go.RowKit
theorem res13 {tmps:Array Value} {w:World} {b:Nat} {v0 v1 v2 v3 v4 v5 v6 k l:Value} (hp:tmps[2]?=some (.pointer (some ⟨b,0,none⟩))) (h5:tmps[3]?=some k) (h6:tmps[4]?=some l) (h:w.cell? ⟨b,0,none⟩=some v0∧w.cell? ⟨b,1,none⟩=some v1∧w.cell? ⟨b,2,none⟩=some v2∧w.cell? ⟨b,3,none⟩=some v3∧w.cell? ⟨b,4,none⟩=some v4∧w.cell? ⟨b,5,none⟩=some v5∧w.cell? ⟨b,6,none⟩=some v6) :
  (results Tryz.f35 tmps).run Tryz.prog w=.ok (.tuple #[.agg #[v0,v1,v2,v3,v4,v5,v6],k,l]) w:=by
 obtain ⟨c0,c1,c2,c3,c4,c5,c6⟩:=h
 simp [results,Tryz.results35,go_sem,hp,h5,h6,c0,c1,c2,c3,c4,c5,c6]
theorem cells_drew7 {X:World} {b:Nat} {v0 v1 v2 v3 v4 v5 v6:Value} (h:X.cell? ⟨b,0,none⟩=some v0∧X.cell? ⟨b,1,none⟩=some v1∧X.cell? ⟨b,2,none⟩=some v2∧X.cell? ⟨b,3,none⟩=some v3∧X.cell? ⟨b,4,none⟩=some v4∧X.cell? ⟨b,5,none⟩=some v5∧X.cell? ⟨b,6,none⟩=some v6):X.drew.cell? ⟨b,0,none⟩=some v0∧X.drew.cell? ⟨b,1,none⟩=some v1∧X.drew.cell? ⟨b,2,none⟩=some v2∧X.drew.cell? ⟨b,3,none⟩=some v3∧X.drew.cell? ⟨b,4,none⟩=some v4∧X.drew.cell? ⟨b,5,none⟩=some v5∧X.drew.cell? ⟨b,6,none⟩=some v6:=h
theorem below_seven {B:Nat} {a X:World} {b:Nat} (h:Below B a X) (hb:B≤b) (v0 v1 v2 v3 v4 v5 v6:Value):Below B a (((((((X.setCell ⟨b,0,none⟩ v0).setCell ⟨b,1,none⟩ v1).setCell ⟨b,2,none⟩ v2).setCell ⟨b,3,none⟩ v3).setCell ⟨b,4,none⟩ v4).setCell ⟨b,5,none⟩ v5).setCell ⟨b,6,none⟩ v6) :=
 ((((((h.setCell (p:=⟨b,0,none⟩) hb v0).setCell (p:=⟨b,1,none⟩) hb v1).setCell (p:=⟨b,2,none⟩) hb v2).setCell (p:=⟨b,3,none⟩) hb v3).setCell (p:=⟨b,4,none⟩) hb v4).setCell (p:=⟨b,5,none⟩) hb v5).setCell (p:=⟨b,6,none⟩) hb v6
theorem Sts.lower {base base':Nat} {es:List Sp} {xs:List Value} {A:World} (h:Sts base es xs A) (hb:base'≤base):Sts base' es xs A:=by
 obtain ⟨L,h1,h2,h3⟩:=h.ex
 exact ⟨L,h1,h2,fun q hq=>(h3 q hq).lower hb⟩
theorem PlanO.lower {base base':Nat} {s:ByteArray} {T:List Sp} {v1:Value} {n1:Nat} {t:ByteArray} {v2 v3:Value} {x z:Int} {v4:Value} {n4:Nat} {A:World} (h:PlanO base s T v1 n1 t v2 v3 x z v4 n4 A) (hb:base'≤base):PlanO base' s T v1 n1 t v2 v3 x z v4 n4 A:=by
 obtain ⟨es,cu,ls,xs,ys,h1,h2,h3,h4,h5,h6,h7,h8,h9,h10,h11,h12⟩:=h.ex
 exact ⟨es,cu,ls,xs,ys,h1,h2,h3,h4,h5,h6,h7,ownsRow_low h8 hb,h9.lower hb,h10.lower hb,ownsRow_low h11 hb,h12.lower hb⟩
theorem PlanO.keep {base:Nat} {s:ByteArray} {T:List Sp} {v1:Value} {n1:Nat} {t:ByteArray} {v2 v3:Value} {x z:Int} {v4:Value} {n4:Nat} {A B:World} {row:Option Nat} (h:PlanO base s T v1 n1 t v2 v3 x z v4 n4 A) (hg:A.grownBy B row) (hr:∀ r,row=some r→r<base∨∃ c t fz,A.heap[r]?=some (.cells c t fz)∧t≠9∧t≠357∧t≠96):PlanO base s T v1 n1 t v2 v3 x z v4 n4 B:=by
 obtain ⟨es,cu,ls,xs,ys,h1,h2,h3,h4,h5,h6,h7,h8,h9,h10,h11,h12⟩:=h.ex
 have st:Stb base A B:=Stb.of_grown hg (fun r e=>(hr r e).imp id (fun ⟨c,t,fz,a1,a2,a3,_⟩=>⟨c,t,fz,a1,a2,a3⟩))
 have ne:∀ {v:Value} {n:Nat} {us:List Value},A.ownsRow base 96 5 v n us→∀ r,row=some r→r<base∨v.ownBlock≠some r:=fun {v n us} hv r e=>(hr r e).imp id (fun ⟨c,t,fz,a1,_,_,a4⟩=>by
  rcases hv.2 with ⟨rfl,_⟩ | ⟨g,cap,cur,rfl,_,hgb,_⟩
  ·simp [Value.ownBlock]
  ·intro e2
   obtain rfl:g=r:=by simpa [Value.ownBlock] using e2
   rw [hgb] at a1
   cases a1
   exact a4 rfl)
 exact ⟨es,cu,ls,xs,ys,h1,h2,h3,h4,h5,h6,h7,ownsRow_keep h8 hg (ne h8),h9.stb st,h10.stb st,ownsRow_keep h11 hg (ne h11),h12.stb st⟩
set_option maxRecDepth 100000 in
set_option maxHeartbeats 2000000 in
theorem chain_any (s:ByteArray) (w:World) (hm:s.size≤80) (R:(Bool × Nat) × Nat) (HR:Hid (Pl.chn s (s.size+1) false 0 0=R)) (cd at_:Nat) (HV:Hid (verdict R=(cd,at_))) (T:List Sp) (HT:Hid (Pl.chC s (s.size+1) false 0=T)) :
  Calls Tryz.prog 35 #[.string s] w fun e w'=>∃ p1 n1 c1 p2 n2 c2 p3 n3 c3 p4 n4 c4,∃ t:ByteArray,∃ x z:Int,e=.returned (.tuple #[.agg #[.slice p1 n1 c1,.string t,.slice p2 n2 c2,.slice p3 n3 c3,.int .i64 x,.int .i64 z,.slice p4 n4 c4],.int .i64 (cd:Int),.int .i64 (at_:Int)])∧Below w.heap.size w w'∧Hid (cd=0→PlanO w.heap.size s T (.slice p1 n1 c1) n1 t (.slice p2 n2 c2) (.slice p3 n3 c3) x z (.slice p4 n4 c4) n4 w'∧n1+1+n4≤8):=by
 have hm':¬ (80:Int)<(s.size:Int):=by omega
 obtain ⟨⟨O,D⟩,C⟩:=R
 have hC:C≤0+(s.size+1):=by have:=chn_count s (s.size+1) false 0 0;rw [HR.out] at this;exact this
 have bR0:Blk w.heap.size 98 #[.slice none 0 0,.string ⟨#[]⟩,.slice none 0 0,.slice none 0 0,.int .i64 0,.int .i64 0,.slice none 0 0] (w.alloc (.cells #[.slice none 0 0,.string ⟨#[]⟩,.slice none 0 0,.slice none 0 0,.int .i64 0,.int .i64 0,.slice none 0 0] 98)):=heap_alloc_new w _
 have bR:=bR0.alloc (.cells #[.string s,.int .i64 0] 181)
 clear bR0
 go_enter Tryz.func35,Tryz.ntmps35
 go_wp2_with fail
 refine (plan_any (w.heap.size+1) s _ hm ⟨by simp [go_sem],by simp [go_sem],fun o=>by simp [go_sem],by simp⟩ O D C HR T HT).mono ?_
 rintro e w2 ⟨p1,n1,c1,p2,n2,c2,p3,n3,c3,p4,n4,c4,t,x,z,rfl,hr2,hn,hg,HPO⟩
 have d1:=hr2.c1
 have hsz:=hg.size
 simp only [World.size_alloc] at hsz
 have hR2:=bR.keep hg (by simp)
 have hB2:Below w.heap.size w w2:=(((Below.refl _ w).alloc (Nat.le_refl _) _).alloc (by simp) _).trans (below_of_grown hg (by omega) (by simp;omega))
 clear bR hg
 cases O with
 | false =>
  have HO:Hid (cd=2∧at_=D):=by
   have:=HV.out;simp [verdict] at this;exact ⟨this.1.symm,this.2.symm⟩
  clear hn
  obtain ⟨⟨r0,r1,r2,r3,r4,r5,r6⟩,rf⟩:=(hR2.alloc (.cells #[.slice p1 n1 c1,.string t,.slice p2 n2 c2,.slice p3 n3 c3,.int .i64 x,.int .i64 z,.slice p4 n4 c4] 98)).seven
  have d1':=(cell_alloc hr2.lt (.cells #[.slice p1 n1 c1,.string t,.slice p2 n2 c2,.slice p3 n3 c3,.int .i64 x,.int .i64 z,.slice p4 n4 c4] 98) 1).trans d1
  obtain ⟨h1,h2⟩:=HO.out
  subst h1 h2
  go_wp2
  go_region
  all_goals go_wp2
  have hc7:=seven_cells (.slice none 0 0) (.string ⟨#[]⟩) (.slice none 0 0) (.slice none 0 0) (.int .i64 0) (.int .i64 0) (.slice none 0 0) r0 r1 r2 r3 r4 r5 r6 _ rfl
  refine bodyPost_ret (res13 rfl rfl rfl (cells_drew7 hc7)) rfl ⟨_,_,_,_,_,_,_,_,_,_,_,_,_,_,_,rfl,?_,fun h=>by cases h⟩
  exact (below_seven (hB2.alloc (by omega) _) (Nat.le_refl _) _ _ _ _ _ _ _).drew
 | true =>
  have hn1:=hn rfl
  clear hn
  by_cases h8:8<C
  ·have HO:Hid (cd=3∧at_=0):=by
    have:=HV.out;simp [verdict,h8] at this;exact ⟨this.1.symm,this.2.symm⟩
   have h8':(8:Int)<(n1:Int)+1+(n4:Int):=by omega
   obtain ⟨h1,h2⟩:=HO.out
   subst h1 h2
   go_wp2_with fail
   refine (stages_any p1 n1 c1 t p2 n2 c2 p3 n3 c3 x z p4 n4 c4 _ (by omega)).mono ?_
   rintro e w3 ⟨rfl,hB3⟩
   have hR3:=(hR2.alloc _).keep (grown_of_below none hB3) (by simp)
   obtain ⟨⟨r0,r1,r2,r3,r4,r5,r6⟩,rf⟩:=hR3.seven
   go_wp2
   have hc7:=seven_cells (.slice none 0 0) (.string ⟨#[]⟩) (.slice none 0 0) (.slice none 0 0) (.int .i64 0) (.int .i64 0) (.slice none 0 0) r0 r1 r2 r3 r4 r5 r6 _ rfl
   refine bodyPost_ret (res13 rfl rfl rfl hc7) rfl ⟨_,_,_,_,_,_,_,_,_,_,_,_,_,_,_,rfl,?_,fun h=>by cases h⟩
   exact below_seven ((hB2.alloc (by omega) (.cells #[.slice p1 n1 c1,.string t,.slice p2 n2 c2,.slice p3 n3 c3,.int .i64 x,.int .i64 z,.slice p4 n4 c4] 98)).trans (hB3.mono (by simp;omega))) (Nat.le_refl _) _ _ _ _ _ _ _
  ·have HO:Hid (cd=0∧at_=0):=by
    have:=HV.out;simp [verdict,h8] at this;exact ⟨this.1.symm,this.2.symm⟩
   have h8':¬ (8:Int)<(n1:Int)+1+(n4:Int):=by omega
   obtain ⟨h1,h2⟩:=HO.out
   subst h1 h2
   go_wp2_with fail
   refine (stages_any p1 n1 c1 t p2 n2 c2 p3 n3 c3 x z p4 n4 c4 _ (by omega)).mono ?_
   rintro e w3 ⟨rfl,hB3⟩
   have hR3:=(hR2.alloc _).keep (grown_of_below none hB3) (by simp)
   have hP3:Blk w2.heap.size 98 #[.slice p1 n1 c1,.string t,.slice p2 n2 c2,.slice p3 n3 c3,.int .i64 x,.int .i64 z,.slice p4 n4 c4] w3:=Blk.keep (show Blk w2.heap.size 98 #[.slice p1 n1 c1,.string t,.slice p2 n2 c2,.slice p3 n3 c3,.int .i64 x,.int .i64 z,.slice p4 n4 c4] (w2.alloc (.cells #[.slice p1 n1 c1,.string t,.slice p2 n2 c2,.slice p3 n3 c3,.int .i64 x,.int .i64 z,.slice p4 n4 c4] 98)) from heap_alloc_new w2 _) (grown_of_below none hB3) (by simp)
   obtain ⟨⟨r0,r1,r2,r3,r4,r5,r6⟩,rf⟩:=hR3.seven
   obtain ⟨⟨l0,l1,l2,l3,l4,l5,l6⟩,lf⟩:=hP3.seven
   go_wp2
   have hc7:=seven_cells (.slice p1 n1 c1) (.string t) (.slice p2 n2 c2) (.slice p3 n3 c3) (.int .i64 x) (.int .i64 z) (.slice p4 n4 c4) r0 r1 r2 r3 r4 r5 r6 _ rfl
   refine bodyPost_ret (res13 rfl rfl rfl hc7) rfl ⟨_,_,_,_,_,_,_,_,_,_,_,_,_,_,_,rfl,?_,?_⟩
   ·exact below_seven ((hB2.alloc (by omega) (.cells #[.slice p1 n1 c1,.string t,.slice p2 n2 c2,.slice p3 n3 c3,.int .i64 x,.int .i64 z,.slice p4 n4 c4] 98)).trans (hB3.mono (by simp;omega))) (Nat.le_refl _) _ _ _ _ _ _ _
   ·have h0:=(HPO.out (by simp)).lower (base':=w.heap.size) (by simp;omega)
    have h1:=h0.keep (World.grownBy_alloc w2 (.cells #[.slice p1 n1 c1,.string t,.slice p2 n2 c2,.slice p3 n3 c3,.int .i64 x,.int .i64 z,.slice p4 n4 c4] 98) none) (fun r e=>by cases e)
    have h2:=h1.keep (grown_of_below none hB3) (fun r e=>by cases e)
    exact ⟨h2.keep (grown_seven_self w3 w.heap.size (.slice p1 n1 c1) (.string t) (.slice p2 n2 c2) (.slice p3 n3 c3) (.int .i64 x) (.int .i64 z) (.slice p4 n4 c4)) (fun r e=>by cases e;exact .inr ⟨_,_,_,hR3,by decide,by decide,by decide⟩),by omega⟩
end Go.Proofs.YtcmgclckknpecaaGreatDoor
namespace Go.Proofs.YtcmgclckknpecaaGreatDoor
open Go.RowKit Go.Shelf
theorem senc_getElem:∀ (xs:List Sq) (i:Nat) (h:i<xs.length),
  (xs.flatMap senc)[i*5]?=some (.string (xs[i]).1.nm)∧(xs.flatMap senc)[i*5+1]?=some (xs[i]).2.1∧(xs.flatMap senc)[i*5+2]?=some (xs[i]).2.2.1∧(xs.flatMap senc)[i*5+3]?=some (.int .i64 (xs[i]).2.2.2.1)∧(xs.flatMap senc)[i*5+4]?=some (.int .i64 (xs[i]).2.2.2.2)
 | x :: r,0,_=>by simp [senc]
 | x :: r,i+1,h=>by
  have ih:=senc_getElem r i (by simpa using h)
  have e:∀ j,((x :: r).flatMap senc)[(i+1)*5+j]?=(r.flatMap senc)[i*5+j]?:=fun j=>by
   rw [List.flatMap_cons,List.getElem?_append_right (by simp [senc];omega)]
   congr 1
   simp [senc];omega
  refine ⟨(e 0).trans ih.1,(e 1).trans ih.2.1,(e 2).trans ih.2.2.1,(e 3).trans ih.2.2.2.1,(e 4).trans ih.2.2.2.2⟩
theorem srow_of [Inhabited Exb] {base:Nat} {es:List Sp} {xs:List Value} {v:Value} {w:World} (hr:w.ownsRow base 96 5 v es.length xs) (hs:StsE base es xs w) :
  ∃ (L:List Sq) (a:Option Addr) (cap g:Nat),es=L.map (·.1)∧v=.slice a L.length cap∧(0<L.length→a=some ⟨g,0,none⟩∧g<w.heap.size)∧Srow base g L w:=by
 obtain ⟨L,rfl,rfl,ho⟩:=hs.ex
 rw [List.length_map] at hr
 obtain ⟨a,cap,rfl,_,hp⟩:=row_form hr
 have hf:∀ q∈L,∃ q1 m1 d1 q2 m2 d2,q.2.1=.slice q1 m1 d1∧q.2.2.1=.slice q2 m2 d2:=fun q hq=>by
  obtain ⟨a1,c1,h1,_⟩:=row_form (ho q hq).r1
  obtain ⟨a2,c2,h2,_⟩:=row_form (ho q hq).r2
  exact ⟨_,_,_,_,_,_,h1,h2⟩
 by_cases h0:0<L.length
 ·obtain ⟨g,rfl,_,hlt,_,hc⟩:=hp h0
  refine ⟨L,_,cap,g,rfl,rfl,fun _=>⟨rfl,hlt⟩,⟨fun j hj=>?_,ho⟩⟩
  obtain ⟨q1,m1,d1,q2,m2,d2,e1,e2⟩:=hf _ (List.getElem_mem hj)
  obtain ⟨g0,g1,g2,g3,g4⟩:=senc_getElem L j hj
  rw [e1] at g1
  rw [e2] at g2
  refine ⟨q1,m1,d1,q2,m2,d2,(L[j]).2.2.2.1,(L[j]).2.2.2.2,by rw [← e1,← e2],hc _ _ g0,hc _ _ g1,hc _ _ g2,hc _ _ g3,hc _ _ g4⟩
 ·refine ⟨L,a,cap,0,rfl,rfl,fun h=>absurd h h0,⟨fun j hj=>by omega,ho⟩⟩
end Go.Proofs.YtcmgclckknpecaaGreatDoor
namespace Go.Proofs.YtcmgclckknpecaaGreatDoor
open Go.RowKit Go.Shelf
structure FMd [Inhabited Exb] (b:Nat) (nm ch:ByteArray) (ib:Nat) (LE LL:List Sq) (jC:Nat) (w:World):Prop where
 ex:∃ a0 a1 a2 a3 a4 a5 a6 sm vE fC vL fE fL,Blk b 175 #[.string nm,.string ch,a0,a1,a2,a3,a4,a5,a6,.int .u32 1,.int .i32 0,sm,vE,fC,vL,.map (some ib)] w∧w.ownsRow 0 189 1 vE LE.length fE∧w.ownsRow 0 194 1 vL LL.length fL∧All2 (RE w) LE fE∧All2 (RL w) LL fL∧COk fC jC w
theorem FMd.keep [Inhabited Exb] {b:Nat} {nm ch:ByteArray} {ib:Nat} {LE LL:List Sq} {jC:Nat} {w w':World} (h:FMd b nm ch ib LE LL jC w) (ha:Agr w w') (hb:∀ k c t f,(t=175∧k=b∨t=189∨t=194)→w.heap[k]?=some (.cells c t f)→w'.heap[k]?=some (.cells c t f)):FMd b nm ch ib LE LL jC w':=by
 obtain ⟨a0,a1,a2,a3,a4,a5,a6,sm,vE,fC,vL,fE,fL,h1,h2,h3,h4,h5,h6⟩:=h.ex
 have rk:∀ {t n v xs},(t=189∨t=194)→w.ownsRow 0 t 1 v n xs→w'.ownsRow 0 t 1 v n xs:=fun {t n v xs} ht h=>by
  refine ⟨h.1,?_⟩
  rcases h.2 with q | ⟨g,cap,cur,q1,q2,q3,q4⟩
  ·exact .inl q
  ·exact .inr ⟨g,cap,cur,q1,q2,hb _ _ _ _ (.inr ht) q3,q4⟩
 exact ⟨a0,a1,a2,a3,a4,a5,a6,sm,vE,fC,vL,fE,fL,hb _ _ _ _ (.inl ⟨rfl,rfl⟩) h1,rk (.inl rfl) h2,rk (.inr rfl) h3,All2.mono (RE.agr ha) h4,All2.mono (RL.agr ha) h5,h6.agr ha⟩
theorem FMd.below [Inhabited Exb] {b:Nat} {nm ch:ByteArray} {ib:Nat} {LE LL:List Sq} {jC:Nat} {w w':World} (h:FMd b nm ch ib LE LL jC w) (hb:Below w.heap.size w w'):FMd b nm ch ib LE LL jC w':=h.keep (Agr.below hb) fun k _ _ _ _ e=>(hb.block k (Array.getElem?_eq_some_iff.1 e).1).trans e
set_option maxRecDepth 100000 in
set_option maxHeartbeats 8000000 in
theorem ftake_run [Inhabited Exb] (nm ch:ByteArray) (ib b:Nat) (LE LL:List Sq) (cu:Sp) (jC:Nat) (cs0:Array Value) (s:ByteArray) (hs:s.size≤120) (xs:Ch3) (HCS:Hid (Pl.cs (Pl.bt s) s.size s.size 0=xs)) (HIN:Hid (Pl.Inv (fun _=>True) xs)) (w:World) (hkE:LE.length≤7) (hkL:LL.length≤8) (hA:Blk b 175 cs0 w)
  (HDO:Hid (∀ w1,Below w.heap.size w w1→Calls Tryz.prog 65 #[.pointer (some ⟨b,9,none⟩),.func (.func 66) #[.pointer (some ⟨b,2,none⟩)] #[]] w1 fun e w3=>e=.returned (.tuple #[])∧FMd b nm ch ib LE LL jC w3∧w1.grownBy w3 (some b)))
  (HIE:Hid (∀ q∈LE,∃ i,∃ hi:i<Pl.starts.length,i<3∧q.1.nm=Pl.starts[i]∧SpW q.1)) (HIL:Hid (∀ q∈LL,∃ i,∃ hi:i<Pl.lates.length,q.1.nm=Pl.lates[i]∧SpW q.1)) (hjC:jC<Pl.starts.length) (hjC3:3≤jC) (HCN:Hid (cu.nm=Pl.starts[jC]))
  (R:Option (List Pl.Tc)) (HR:Hid (Pl.takeP (LE.map (·.1)) cu (LL.map (·.1)) xs=R)) :
  Calls Tryz.prog 36 #[.pointer (some ⟨b,2,none⟩),.string s] w fun e w'=>TakO R w.heap.size e w'∧FMd b nm ch ib LE LL jC w'∧w.grownBy w' (some b):=by
 have hb:=hA.lt
 have hcs:xs.length≤120:=by have:=Pl.cs_length (Pl.bt s) s.size s.size 0;rw [HCS.out] at this;omega
 go_enter Tryz.func36,Tryz.ntmps36
 go_wp2_with fail
 refine (split_any s _ hs xs HCS).mono ?_
 rintro e w1 ⟨vc,rfl,hrowc,hB1⟩
 obtain ⟨ac,capc,hvc,hcapc,hpc⟩:=row_form hrowc
 subst hvc
 have hA1:=hA.keep (row:=none) (grown_of_below none hB1) (by simp)
 have hs1:=hB1.size
 go_wp2_with fail
 refine (HDO.out w1 hB1).mono ?_
 rintro e w3 ⟨rfl,hmd,hg13⟩
 have HMD:Hid (FMd b nm ch ib LE LL jC w3):=hmd
 obtain ⟨a0,a1,a2,a3,a4,a5,a6,sm,vE,fC,vL,fE,fL,hA3,hrE3,hrL3,haE3,haL3,hcO3⟩:=hmd.ex
 clear hmd
 have hrc3:=hrowc.kept hg13 (.inr (row_ne_blk hrowc hA1 (by decide)))
 have hs3:=hg13.size
 have hgw3:w.grownBy w3 (some b):=grown_trans (grown_of_below _ hB1) hg13
 have hrc0:w3.ownsRow w.heap.size 38 3 (.slice ac xs.length capc) xs.length (xs.flatMap enc):=hrc3
 obtain ⟨aE,capE,hvE,_,hpE⟩:=row_form hrE3
 obtain ⟨aL,capL,hvL,_,hpL⟩:=row_form hrL3
 subst hvE hvL
 obtain ⟨bsC,hfC,hbC⟩:=hcO3.ex
 have HAE:Hid (All2 (RE w3) LE fE):=haE3
 have HAL:Hid (All2 (RL w3) LL fL):=haL3
 have HCO:Hid (COk fC jC w3):=hcO3
 have HPE:Hid (0<LE.length→∃ g,aE=some ⟨g,0,none⟩∧g<w3.heap.size∧∀ j u,fE[j]?=some u→w3.cell? ⟨g,j,none⟩=some u):=fun h=>by
  obtain ⟨g,h1,_,h2,_,h3⟩:=hpE h
  exact ⟨g,h1,h2,h3⟩
 have HPL:Hid (0<LL.length→∃ g,aL=some ⟨g,0,none⟩∧g<w3.heap.size∧∀ j u,fL[j]?=some u→w3.cell? ⟨g,j,none⟩=some u):=fun h=>by
  obtain ⟨g,h1,_,h2,_,h3⟩:=hpL h
  exact ⟨g,h1,h2,h3⟩
 have e10:w3.cell? ⟨b,12,none⟩=some (.slice aE LE.length capE):=blk_cell hA3 12
 clear hrE3 hrL3 haE3 haL3 hcO3 hpE hpL hrc3 hg13 hpc hrowc hA1 hbC HDO hA
 go_wp2_with fail
 go_loopw [6,33] (fun vch i wr=>∃ (j:Nat) (ys:Ch3),i=.int .i64 (j:Int)∧j≤LE.length∧wr.ownsRow w.heap.size 38 3 vch ys.length (ys.flatMap enc)∧Hid (Pl.takeP ((LE.drop j).map (·.1)) cu (LL.map (·.1)) ys=R∧ys.length≤120*8 ^ j∧Pl.Inv (fun _=>True) ys)∧Below w3.heap.size w3 wr) (fun _ i _=>LE.length - (intOf i).toNat)
 case atStart=>exact ⟨0,xs,rfl,by omega,hrc0,⟨HR.out,by simpa using hcs,HIN.out⟩,Below.refl _ _⟩
 case round =>
  obtain ⟨j,ys,rfl,hj,hrow,HY,hB5⟩:=hrel
  obtain ⟨a5,cap5,g5,hv5,hcap5,ha5,hg5,hC5⟩:=cr_form hrow
  subst hv5
  have hyl:ys.length≤268435456:=by
   have h1:=HY.out.2.1
   have h2:8 ^ j≤8 ^ 7:=Nat.pow_le_pow_right (by omega) (by omega)
   omega
  by_cases hjk:j<LE.length
  ·have hjI:(j:Int)<(LE.length:Int):=by omega
   obtain ⟨gE,hgE,hgEl,hcE⟩:=HPE.out (by omega)
   obtain ⟨f,hf,hRE⟩:=HAE.out.get j hjk
   have hij:=HIE.out (LE[j]) (List.getElem_mem hjk)
   have hdr:LE.drop j=LE[j] :: LE.drop (j+1):=List.drop_eq_getElem_cons hjk
   obtain ⟨q,hq⟩:∃ q,LE[j]=q:=⟨_,rfl⟩
   rw [hq] at hRE hij hdr
   obtain ⟨ix,hix,hi3,hnx,hEO⟩:=hRE.agr (Agr.below hB5)
   obtain ⟨F,lb,hfF,eF,hcall⟩:=hEO.ex
   have hcell:wr.cell? ⟨gE,j,none⟩=some f:=(hB5.cell (p:=⟨gE,j,none⟩) hgEl).trans (hcE j f hf)
   have hw:SpW q.1:=by
    obtain ⟨_,_,_,_,h⟩:=hij
    exact h
   have hB6:Below wr.heap.size wr (wr.alloc (.cells #[f] 189)):=(Below.refl _ wr).alloc (Nat.le_refl _) _
   have hcl:=hcall (wr.alloc (.cells #[f] 189)) (Agr.below hB6) g5 cap5 ys a5 (hC5.below hB6 hg5) ha5 (fun h=>by have:=hg5 h;simp;omega) hcap5 hyl
   have hlen:=Pl.eaK_len ix q.1 hw ys
   have hes:Pl.eaS q.1 ys=Pl.eaK ix q.1 ys:=by rw [Pl.eaS,hnx,Pl.iS_at ix hix]
   obtain ⟨zs,hzs⟩:∃ zs,Pl.eaK ix q.1 ys=zs:=⟨_,rfl⟩
   rw [hzs] at hcl hlen hes
   have HZ:Hid (Pl.takeP ((LE.drop (j+1)).map (·.1)) cu (LL.map (·.1)) zs=R∧zs.length≤120*8 ^ (j+1)∧Pl.Inv (fun _=>True) zs):=by
    obtain ⟨h1,h2,h3⟩:=HY.out
    rw [hdr] at h1
    refine ⟨?_,?_,?_⟩
    ·rw [← h1,← hes];rfl
    ·rw [Nat.pow_succ];omega
    ·rw [← hzs]
     exact Pl.eaK_inv h3 ix q.1 hw
   have HCL:Hid (Calls Tryz.prog F (#[.slice a5 ys.length cap5]++lb) (wr.alloc (.cells #[f] 189)) fun e w'=>∃ v,e=.returned v∧w'.ownsRow (wr.alloc (.cells #[f] 189)).heap.size 38 3 v zs.length (zs.flatMap enc)∧Below (wr.alloc (.cells #[f] 189)).heap.size (wr.alloc (.cells #[f] 189)) w'):=hcl
   subst hfF hgE
   clear hcl hcall hEO hRE hij hnx hzs hes hlen hdr hq HY hcE
   go_wp2_with fail
   refine HCL.out.mono ?_
   rintro e w6 ⟨v6,rfl,hr6,hB7⟩
   have hB8:Below w3.heap.size w3 w6:=hB5.trans ((hB6.trans (hB7.mono (by simp))).mono hB5.size)
   have hs5:=hB5.size
   have hsw:=hgw3.size
   have hr7:=ownsRow_low (base':=w.heap.size) hr6 (by simp;omega)
   obtain ⟨a7,cap7,hv7,_,_⟩:=row_form hr7
   subst hv7
   go_wp2_with fail
   go_roundw
   case rel=>exact ⟨j+1,zs,by go_num,by omega,hr7,HZ,hB8⟩
   case measure=>simp [intOf];omega
  ·have hjI:¬ (j:Int)<(LE.length:Int):=by omega
   have hj0:LE.drop j=[]:=List.drop_of_length_le (by omega)
   obtain ⟨hR0,hyl0,hiv⟩:=HY.out
   rw [hj0] at hR0
   have hic:Pl.iS cu.nm=jC:=by rw [HCN.out];exact Pl.iS_at jC hjC
   have hR1:Pl.lateAll (LL.map (·.1)) (Pl.toksC ys 0 (Pl.pcs jC ys))=R:=by rw [← hic];exact hR0
   have hTI:Pl.TkI (fun _=>True) 268435456 (Pl.toksC ys 0 (Pl.pcs jC ys)):=by
    have:=Pl.cutC_inv hiv cu 268435456 hyl
    rw [Pl.cutC,hic] at this
    exact this
   have e11:wr.cell? ⟨b,13,none⟩=some fC:=(hB5.cell (p:=⟨b,13,none⟩) (by have:=hgw3.size;show b<_;omega)).trans (blk_cell hA3 13)
   have e12:w3.cell? ⟨b,14,none⟩=some (.slice aL LL.length capL):=blk_cell hA3 14
   have hcl := cut_ok jC (by have : Pl.starts.length = 6 := by decide +kernel
                             omega) hjC3 fC wr (HCO.out.agr (Agr.below hB5)) g5 cap5 ys a5 hC5 ha5 hg5 hcap5 hyl (cdx_inv hiv.ok)
   have hlt:=Pl.toksC_length ys 0 (Pl.pcs jC ys)
   have het:=Pl.toks_eq ys 0 (Pl.pcs jC ys)
   rw [het] at hcl
   rw [← hlt] at hcl
   obtain ⟨tz,htz⟩:∃ tz,Pl.toksC ys 0 (Pl.pcs jC ys)=tz:=⟨_,rfl⟩
   rw [htz] at hcl hR1 hTI
   have HCL:Hid (Calls Tryz.prog 67 #[.slice a5 ys.length cap5,.agg #[fC]] wr fun e W'=>((tz.length≤300∧∃ v,e=.returned (.tuple #[v,.bool true])∧W'.ownsRow wr.heap.size 27 4 v tz.length ((tz.map Pl.tkC).flatMap tenc))∨(300<tz.length∧e=.returned (.tuple #[.slice none 0 0,.bool false])))∧Below wr.heap.size wr W'):=hcl
   have HR1:Hid (Pl.lateAll (LL.map (·.1)) tz=R):=hR1
   have HTI:Hid (Pl.TkI (fun _=>True) 268435456 tz):=hTI
   clear hcl hlt het htz hR1 hTI hic hR0 hyl0 hiv hj0 HY HR HCS HIN HAE HPE HIE HCO hfC hrow hrc0
   go_wp2_with fail
   refine HCL.out.mono ?_
   rintro e w4 ⟨hres,hB4⟩
   have hs5:=hB5.size
   have hsw:=hgw3.size
   have hB34:Below w3.heap.size w3 w4:=hB5.trans (hB4.mono hs5)
   have hs4:=hB34.size
   have hgw4:w.grownBy w4 (some b):=grown_trans hgw3 (grown_of_below _ hB34)
   have e12':w4.cell? ⟨b,14,none⟩=some (.slice aL LL.length capL):=(hB34.cell (p:=⟨b,14,none⟩) (by show b<_;omega)).trans e12
   have HPL4:Hid (0<LL.length→∃ g,aL=some ⟨g,0,none⟩∧g<w4.heap.size∧∀ j u,fL[j]?=some u→w4.cell? ⟨g,j,none⟩=some u):=fun h=>by
    obtain ⟨g,h1,h2,h3⟩:=HPL.out h
    exact ⟨g,h1,by omega,fun j u hu=>(hB34.cell (p:=⟨g,j,none⟩) h2).trans (h3 j u hu)⟩
   have HAL4:Hid (All2 (RL w4) LL fL):=All2.mono (RL.agr (Agr.below hB34)) HAL.out
   obtain ⟨tv,okv,rfl,hst⟩:∃ tv okv,e=.returned (.tuple #[tv,okv])∧LtR w.heap.size LL R w4 tv okv (.int .i64 0) w4:=by
    rcases hres with ⟨h3,v,rfl,hr⟩ | ⟨h3,rfl⟩
    ·exact ⟨_,_,rfl,⟨.inl ⟨0,tz,rfl,by omega,rfl,ownsRow_low hr (by omega),HR1.out,h3,HTI.out,Below.refl _ _⟩⟩⟩
    ·refine ⟨_,_,rfl,⟨.inr ⟨0,rfl,by omega,rfl,?_,rfl,Below.refl _ _⟩⟩⟩
     rw [← HR1.out]
     exact lateAll_many h3
   clear hres HCL HR1 HTI HPL HAL hC5 ha5 hg5 hcap5 hyl e11 e12
   go_wp2_with fail
   go_loopw [10,11,56] (fun tk ok i wr=>LtR w.heap.size LL R w4 tk ok i wr) (fun _ _ i _=>LL.length - (intOf i).toNat)
   case atStart=>exact hst
   case round =>
    rcases hrel.ex with ⟨j,ts,rfl,hj,rfl,hrow,hR,h300,hTI,hB5⟩ | ⟨j,rfl,hj,rfl,hR,rfl,hB5⟩
    ·have HRR:Hid (Pl.lateAll ((LL.drop j).map (·.1)) ts=R):=hR
     clear hR hrel hst
     by_cases hjk:j<LL.length
     ·have hjI:(j:Int)<(LL.length:Int):=by omega
      obtain ⟨gL,hgL,hgLl,hcL⟩:=HPL4.out (by omega)
      obtain ⟨f,hf,hRL⟩:=HAL4.out.get j hjk
      have hij:=HIL.out (LL[j]) (List.getElem_mem hjk)
      have hdr:LL.drop j=LL[j] :: LL.drop (j+1):=List.drop_eq_getElem_cons hjk
      obtain ⟨q,hq⟩:∃ q,LL[j]=q:=⟨_,rfl⟩
      rw [hq] at hRL hij hdr
      obtain ⟨ix,hix,hnx,hLO⟩:=hRL.agr (Agr.below hB5)
      obtain ⟨F,lb,hfF,eF,hcall⟩:=hLO.ex
      have hw:SpW q.1:=by
       obtain ⟨_,_,_,h⟩:=hij
       exact h
      have hcell:wr.cell? ⟨gL,j,none⟩=some f:=(hB5.cell (p:=⟨gL,j,none⟩) hgLl).trans (hcL j f hf)
      have hB6:Below wr.heap.size wr (wr.alloc (.cells #[f] 194)):=(Below.refl _ wr).alloc (Nat.le_refl _) _
      obtain ⟨a5,cap5,g5,hv5,ha5,hg5,hT5⟩:=tr_form (xs:=ts.map Pl.tkC) (by rw [List.length_map];exact hrow)
      subst hv5
      have hes:∀ cs,Pl.laS q.1 cs=Pl.laK ix q.1 cs:=fun cs=>by rw [Pl.laS,hnx,Pl.iL_at ix hix]
      have hHT:∀ (k:Nat) (hk:k<(ts.map Pl.tkC).length) (W:World),Below (wr.alloc (.cells #[f] 194)).heap.size (wr.alloc (.cells #[f] 194)) W→CallsIn Fence.wide (8 - 1) Tryz.prog F (#[.string ((ts.map Pl.tkC)[k]).1]++lb) W fun e W'=>∃ gf lb,e=.returned (.func (.func gf) #[] lb)∧Below W.heap.size W W'∧(∀ args w,(callFunc gf args).run Tryz.prog w=.ok (.enter gf args) w) ∧
        ∀ B,(wr.alloc (.cells #[f] 194)).heap.size≤B→B<W.heap.size→SeqStopsO Fence.wide (8 - 1) Tryz.prog gf lb encs1 (KeepO B 27) (fun ys=>ys=(fun x=>(Pl.laS q.1 (Pl.dc x)).map Pl.en) ((ts.map Pl.tkC)[k]).1) (fun pre=>pre <+: (fun x=>(Pl.laS q.1 (Pl.dc x)).map Pl.en) ((ts.map Pl.tkC)[k]).1) 10995116277760 W':=fun k hk W hW=>by
       have hk':k<ts.length:=by simpa using hk
       have ek:((ts.map Pl.tkC)[k]).1=Pl.en (ts[k]).1:=by rw [List.getElem_map];rfl
       obtain ⟨o1,o2,o3,_⟩:=hTI.ok _ (List.getElem_mem hk')
       rw [ek]
       simp only [Pl.dc_en _ o1,hes]
       have hz:(Pl.en (ts[k]).1).size≤1099511627776:=by
        rw [Pl.en_size]
        have:=(Pl.eb_le (ts[k]).1).2
        omega
       refine (hcall W ((Agr.below hB6).trans (Agr.below hW)) _ o1 hz).mono ?_
       rintro e W' ⟨gf,lb',a1,a2,a3,a4⟩
       exact ⟨gf,lb',a1,a2,a3,fun B hB hB2=>a4 B (by simp at hB;omega) hB2⟩
      have hch:=callsIn_wide.1 (changeO_in 10995116277760 8 (by omega) F lb eF g5 cap5 (ts.map Pl.tkC) a5 ha5 (wr.alloc (.cells #[f] 194)) (fun h=>by have:=hg5 h;simp;omega) (hT5.below hB6 hg5) (by simpa using h300) (fun x=>(Pl.laS q.1 (Pl.dc x)).map Pl.en) hHT)
      rw [Pl.chg_eq q.1 ts (fun t ht=>(hTI.ok t ht).1),List.length_map] at hch
      have hTI2:=Pl.lgC_inv hTI q.1 hw
      have HR2:Hid (Pl.TkI (fun _=>True) (268435456+8*(j+1)) (Pl.lgC q.1 ts)∧Pl.lateAll ((LL.drop (j+1)).map (·.1)) (Pl.lgC q.1 ts)=R):=by
       refine ⟨by rw [show 268435456+8*(j+1)=268435456+8*j+8 by omega];exact hTI2,?_⟩
       have h1:=HRR.out
       rw [hdr,List.map_cons,Pl.lateAll,if_pos h300] at h1
       exact h1
      obtain ⟨zs,hzs⟩:∃ zs,Pl.lgC q.1 ts=zs:=⟨_,rfl⟩
      rw [hzs] at hch HR2
      rw [List.length_map] at hch
      have HCH:Hid (Calls Tryz.prog 68 #[.slice a5 ts.length cap5,.agg #[f]] (wr.alloc (.cells #[f] 194)) fun e W'=>((zs.length≤300∧∃ v,e=.returned (.tuple #[v,.bool true])∧W'.ownsRow (wr.alloc (.cells #[f] 194)).heap.size 27 4 v zs.length ((zs.map Pl.tkC).flatMap tenc))∨(300<zs.length∧e=.returned (.tuple #[.slice none 0 0,.bool false])))∧Below (wr.alloc (.cells #[f] 194)).heap.size (wr.alloc (.cells #[f] 194)) W'):=by rw [← hfF] at hch;exact hch
      have hlm:(ts.map Pl.tkC).length=ts.length:=List.length_map _
      rw [hlm]
      subst hgL hfF
      clear hch hHT hcall hLO hRL hij hnx hes hzs hTI2 hTI HRR hdr hq hcL hT5 hrow eF hlm ha5 hg5
      go_wp2_with fail
      refine HCH.out.mono ?_
      rintro e w6 ⟨hres,hB7⟩
      have hB8:Below w4.heap.size w4 w6:=hB5.trans ((hB6.trans (hB7.mono (by simp))).mono hB5.size)
      have hs6:=hB5.size
      obtain ⟨tv6,okv6,rfl,hst6⟩:∃ tv okv,e=.returned (.tuple #[tv,okv])∧LtR w.heap.size LL R w4 tv okv (.int .i64 ((j+1:Nat):Int)) w6:=by
       rcases hres with ⟨h3,v,rfl,hr⟩ | ⟨h3,rfl⟩
       ·exact ⟨_,_,rfl,⟨.inl ⟨j+1,zs,rfl,by omega,rfl,ownsRow_low hr (by simp;omega),HR2.out.2,h3,HR2.out.1,hB8⟩⟩⟩
       ·refine ⟨_,_,rfl,⟨.inr ⟨j+1,rfl,by omega,rfl,?_,rfl,hB8⟩⟩⟩
        rw [← HR2.out.2]
        exact lateAll_many h3
      clear hres HCH HR2
      go_wp2_with fail
      go_roundw
      case rel=>exact (show LtR _ _ _ _ _ _ (.int .i64 ((j:Int)+1)) _ from hst6)
      case measure=>simp [intOf];omega
     ·have hjI:¬ (j:Int)<(LL.length:Int):=by omega
      have hfin:w.grownBy wr (some b):=grown_trans hgw4 (grown_of_below _ hB5)
      have hR:some ts=R:=by
       have h1:=HRR.out
       rw [List.drop_of_length_le (by omega),List.map_nil,Pl.lateAll,if_pos h300] at h1
       exact h1
      obtain ⟨a5,cap5,hv5,_,_⟩:=row_form hrow
      subst hv5
      have hfi:TakO R w.heap.size (.returned (.tuple #[.slice a5 ts.length cap5,.int .i64 0])) wr:=⟨.inl ⟨ts,_,hR.symm,rfl,hrow⟩⟩
      clear HRR hR hrow hTI
      go_wp2_with fail
      go_ret2
      exact ⟨hfi,HMD.out.below (hB34.trans (hB5.mono hs4)),hfin⟩
    ·have hfin:w.grownBy wr (some b):=grown_trans hgw4 (grown_of_below _ hB5)
     have HRN:Hid (R=none):=hR
     clear hR hrel hst
     by_cases hjk:j<LL.length
     ·have hjI:(j:Int)<(LL.length:Int):=by omega
      obtain ⟨gL,hgL,hgLl,hcL⟩:=HPL4.out (by omega)
      obtain ⟨f,hf,hRL⟩:=HAL4.out.get j hjk
      obtain ⟨ix,hix,_,hLO⟩:=hRL.agr (Agr.below hB5)
      obtain ⟨F,lb,hfF,_,_⟩:=hLO.ex
      have hcell:wr.cell? ⟨gL,j,none⟩=some f:=(hB5.cell (p:=⟨gL,j,none⟩) hgLl).trans (hcL j f hf)
      subst hgL hfF
      clear hcL hLO hRL
      go_wp2_with fail
      go_ret2
      exact ⟨⟨.inr ⟨HRN.out,rfl⟩⟩,HMD.out.below ((hB34.trans (hB5.mono hs4)).alloc (by have:=hB5.size;omega) _),grown_trans hfin (grown_of_below _ ((Below.refl _ wr).alloc (Nat.le_refl _) _))⟩
     ·have hjI:¬ (j:Int)<(LL.length:Int):=by omega
      go_wp2_with fail
      go_ret2
      exact ⟨⟨.inr ⟨HRN.out,rfl⟩⟩,HMD.out.below (hB34.trans (hB5.mono hs4)),hfin⟩
end Go.Proofs.YtcmgclckknpecaaGreatDoor
