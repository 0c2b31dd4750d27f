import Derived.Test.YtcmgclckknpecaaGreatDoorKba
namespace Go.Proofs.YtcmgclckknpecaaGreatDoor
open Go.RowKit
set_option maxRecDepth 100000 in
set_option maxHeartbeats 4000000 in
theorem plan_any (rb:Nat) (s:ByteArray) (w:World) (hm:s.size≤80) (h:Rd rb s 0 w) (O:Bool) (D C:Nat) (HR:Hid (Pl.chn s (s.size+1) false 0 0=((O,D),C))) (T:List Sp) (HT:Hid (Pl.chC s (s.size+1) false 0=T)) :
  Calls Tryz.prog 63 #[.pointer (some ⟨rb,0,none⟩)] w fun e w'=>∃ p1 n1 c1 p2 n2 c2 p3 n3 c3 p4 n4 c4,∃ t:ByteArray,∃ x z:Int,e=.returned (.tuple #[.agg #[.slice p1 n1 c1,.string t,.slice p2 n2 c2,.slice p3 n3 c3,.int .i64 x,.int .i64 z,.slice p4 n4 c4],.bool O])∧Rd rb s D w'∧(O=true→n1+1+n4=C)∧w.grownBy w' (some rb)∧Hid (O=true→PlanO w.heap.size s T (.slice p1 n1 c1) n1 t (.slice p2 n2 c2) (.slice p3 n3 c3) x z (.slice p4 n4 c4) n4 w'):=by
 have hrb:=h.lt
 obtain ⟨i0,hi,hz0,hz1,hz2⟩:=info_parts info47
 have h0:Rd rb s 0 ((w.alloc (.cells #[.slice none 0 0,.string ⟨#[]⟩,.slice none 0 0,.slice none 0 0,.int .i64 0,.int .i64 0,.slice none 0 0] 98)).alloc (.cells #[.slice none 0 0,.string ⟨#[]⟩,.slice none 0 0,.slice none 0 0,.int .i64 0,.int .i64 0,.slice none 0 0] 98)):=(h.of_below ((Below.refl _ w).alloc (Nat.le_refl _) _)).of_below ((Below.refl _ _).alloc (Nat.le_refl _) _)
 have bR:Blk w.heap.size 98 #[.slice none 0 0,.string ⟨#[]⟩,.slice none 0 0,.slice none 0 0,.int .i64 0,.int .i64 0,.slice none 0 0] ((w.alloc (.cells #[.slice none 0 0,.string ⟨#[]⟩,.slice none 0 0,.slice none 0 0,.int .i64 0,.int .i64 0,.slice none 0 0] 98)).alloc (.cells #[.slice none 0 0,.string ⟨#[]⟩,.slice none 0 0,.slice none 0 0,.int .i64 0,.int .i64 0,.slice none 0 0] 98)):=Blk.keep (show Blk w.heap.size 98 #[.slice none 0 0,.string ⟨#[]⟩,.slice none 0 0,.slice none 0 0,.int .i64 0,.int .i64 0,.slice none 0 0] (w.alloc (.cells #[.slice none 0 0,.string ⟨#[]⟩,.slice none 0 0,.slice none 0 0,.int .i64 0,.int .i64 0,.slice none 0 0] 98)) from heap_alloc_new w _) (World.grownBy_alloc _ _ none) (by simp)
 have bL:Blk (w.heap.size+1) 98 #[.slice none 0 0,.string ⟨#[]⟩,.slice none 0 0,.slice none 0 0,.int .i64 0,.int .i64 0,.slice none 0 0] ((w.alloc (.cells #[.slice none 0 0,.string ⟨#[]⟩,.slice none 0 0,.slice none 0 0,.int .i64 0,.int .i64 0,.slice none 0 0] 98)).alloc (.cells #[.slice none 0 0,.string ⟨#[]⟩,.slice none 0 0,.slice none 0 0,.int .i64 0,.int .i64 0,.slice none 0 0] 98)):=by
  have:=heap_alloc_new (w.alloc (.cells #[.slice none 0 0,.string ⟨#[]⟩,.slice none 0 0,.slice none 0 0,.int .i64 0,.int .i64 0,.slice none 0 0] 98)) (.cells #[.slice none 0 0,.string ⟨#[]⟩,.slice none 0 0,.slice none 0 0,.int .i64 0,.int .i64 0,.slice none 0 0] 98)
  rw [World.size_alloc] at this;exact this
 have g0:w.grownBy ((w.alloc (.cells #[.slice none 0 0,.string ⟨#[]⟩,.slice none 0 0,.slice none 0 0,.int .i64 0,.int .i64 0,.slice none 0 0] 98)).alloc (.cells #[.slice none 0 0,.string ⟨#[]⟩,.slice none 0 0,.slice none 0 0,.int .i64 0,.int .i64 0,.slice none 0 0] 98)) (some rb):=grown_alloc (World.grownBy_alloc _ _ _) _
 go_enter Tryz.func63,Tryz.ntmps63
 go_wp2
 go_loopw [6] (fun _ wr=>∃ (a c:Nat) (ve:Value) (xs:List Value) (t:ByteArray) (p2:Option Addr) (n2 c2:Nat) (p3:Option Addr) (n3 c3:Nat) (x z:Int) (es:List Sp),Hid (c=es.length∧(∀ e∈es,Pl.isE s e)∧Sts w.heap.size es xs wr)∧a≤s.size∧Rd rb s a wr∧Blk w.heap.size 98 #[.slice none 0 0,.string ⟨#[]⟩,.slice none 0 0,.slice none 0 0,.int .i64 0,.int .i64 0,.slice none 0 0] wr∧Blk (w.heap.size+1) 98 #[ve,.string t,.slice p2 n2 c2,.slice p3 n3 c3,.int .i64 x,.int .i64 z,.slice none 0 0] wr∧wr.ownsRow w.heap.size 96 5 ve c xs∧w.grownBy wr (some rb)∧c≤a ∧
  Hid ((t=⟨#[]⟩∧∃ m,s.size<a+m∧Pl.chn s m false a c=((O,D),C)∧es++Pl.chC s m false a=T)∨(t.toList.isEmpty=false∧∃ m,s.size<a+m∧tl s m a (c+1)=((O,D),C)∧∃ cu:Sp,cu.nm=t∧Pl.isC s cu∧StO w.heap.size cu (.slice p2 n2 c2) (.slice p3 n3 c3) x z wr∧es++cu :: Pl.tlC s m a=T))) (fun _ wr=>200 - plc rb wr)
 case atStart=>exact ⟨0,0,_,[],_,_,_,_,_,_,_,_,_,[],⟨rfl,fun _ h=>(by cases h),Sts.nil _ _⟩,by omega,h0,bR,bL,World.ownsRow_nil _ _ _ _,g0,by omega,.inl ⟨rfl,s.size+1,by omega,HR.out,HT.out⟩⟩
 case round =>
  obtain ⟨a,c,ve,xs,t,p2,n2,c2,p3,n3,c3,x,z,es,HS,ha,hr,hR,hLb,hrow,hg,hca,HC⟩:=hrel
  clear h0 bR bL g0
  obtain ⟨⟨r0,r1,r2,r3,r4,r5,r6⟩,rf⟩:=hR.seven
  obtain ⟨⟨l0,l1,l2,l3,l4,l5,l6⟩,lf⟩:=hLb.seven
  rcases HC.out with ⟨rfl,m,hbm,hl,hT⟩ | ⟨hte,m,hbm,hl,hcu⟩
  ·obtain ⟨pv,cv,rfl⟩:=slice_of hrow
   obtain ⟨m,rfl⟩:∃ m',m=m'+1:=⟨m - 1,by omega⟩
   obtain ⟨⟨res,b⟩,hnm⟩:∃ r,Pl.nm s a Pl.starts 0 0=r:=⟨_,rfl⟩
   have hbf:=nm_le s a ha Pl.starts 0 0 res b (by omega) hnm
   have HTT:Hid (es++Pl.chC s (m+1) false a=T):=hT
   clear hT
   go_wp2_with fail
   cases res with
   | none =>
    have hRv:((O,D),C)=((false,b),c):=by rw [← hl];exact chn_none s m false a c b hnm
    simp only [Prod.mk.injEq] at hRv
    obtain ⟨⟨hO,rfl⟩,_⟩:=hRv
    have HO:Hid (O=false):=hO
    clear hO
    clear hl HC
    refine (step_start_no rb _ s a _ hm ha (hr.al _) (starts_nms wr) D hnm hbf.2).mono ?_
    rintro e w2 ⟨q1,q2,q3,q4,q5,q6,q7,q8,rfl,hr2,hg2⟩
    have hR2:=(hR.alloc _).keep hg2 (by simp;omega)
    have hLb2:=(hLb.alloc _).keep hg2 (by simp;omega)
    have hrow2:=ownsRow_grown (hrow.alloc _) hg2 hrb
    have hgg:=grown_trans (grown_alloc hg _) hg2
    have hsz2:=hg2.size
    have hsz0:=hg.size
    have hsz3:=hLb2.lt
    simp only [World.size_alloc] at hsz2
    clear r0 r1 r2 r3 r4 r5 r6 rf l0 l1 l2 l3 l4 l5 l6 lf
    obtain ⟨⟨r0,r1,r2,r3,r4,r5,r6⟩,rf⟩:=hR2.seven
    obtain ⟨⟨l0,l1,l2,l3,l4,l5,l6⟩,lf⟩:=hLb2.seven
    clear r0 r1 r2 r3 r4 r5 r6 rf l0 l1 l2 l3 l4 l5 l6 lf
    obtain ⟨⟨r0,r1,r2,r3,r4,r5,r6⟩,rf⟩:=(hR2.alloc (.cells #[.string ⟨#[]⟩,.slice q1 q2 q3,.slice q4 q5 q6,.int .i64 q7,.int .i64 q8] 96)).seven
    obtain ⟨⟨l0,l1,l2,l3,l4,l5,l6⟩,lf⟩:=(hLb2.alloc (.cells #[.string ⟨#[]⟩,.slice q1 q2 q3,.slice q4 q5 q6,.int .i64 q7,.int .i64 q8] 96)).seven
    go_wp2
    obtain rfl:=HO.out
    have hc7:=seven_cells (.slice pv c cv) (.string ⟨#[]⟩) (.slice p2 n2 c2) (.slice p3 n3 c3) (.int .i64 x) (.int .i64 z) (.slice none 0 0) r0 r1 r2 r3 r4 r5 r6 _ rfl
    refine bodyPost_ret (res19 rfl rfl hc7) rfl ⟨_,_,_,_,_,_,_,_,_,_,_,_,_,_,_,rfl,?_,?_,?_,fun h=>by cases h⟩
    ·exact (Rd.seven (hr2.al _) (by omega) _ _ _ _ _ _ _)
    ·simp
    ·exact (grown_seven (grown_alloc hgg _) (Nat.le_refl _) _ _ _ _ _ _ _)
   | some i =>
    have hpos:=nm_pos s a Pl.starts 0 0 i b starts_pos hnm
    have hi6:i<Pl.starts.length:=by
     rcases Nat.lt_or_ge i Pl.starts.length with h' | h'
     ·exact h'
     ·exact absurd hnm (nm_lt s a Pl.starts 0 0 i b (by omega))
    obtain ⟨⟨o,d⟩,hbd⟩:∃ r,Pl.body s (Pl.kindS i) b=r:=⟨_,rfl⟩
    have hdf:=body_fits s (Pl.kindS i) b hbf.2
    rw [hbd] at hdf
    have hst:=fun W h1 h2=>step_start rb wr.heap.size s a W hm ha h1 h2 i b hi6 hnm hbf.2 o d hbd
    have hsq:=starts_q i hi6
    obtain ⟨y,hy⟩:∃ y,Pl.starts[i]'hi6=y:=⟨_,rfl⟩
    rw [hy] at hst hsq
    have HST:Hid (∀ W,Rd rb s a W→Nms wr.heap.size Pl.starts W→Calls Tryz.prog 123 #[.pointer (some ⟨rb,0,none⟩),.slice (some ⟨wr.heap.size,0,none⟩) 6 6] W fun e w'=>∃ p1 n1 d1 p2 n2 d2,∃ x z:Int,e=.returned (.tuple #[.agg #[.string y,.slice p1 n1 d1,.slice p2 n2 d2,.int .i64 x,.int .i64 z],.bool o])∧Rd rb s d w'∧W.grownBy w' (some rb)∧Hid (o=true→StO W.heap.size (Pl.spC s y (Pl.kindS i) b) (.slice p1 n1 d1) (.slice p2 n2 d2) x z w')):=hst
    have HY:Hid (Pl.starts[i]'hi6=y):=hy
    have HNM:Hid (Pl.nm s a Pl.starts 0 0=(some i,b)):=hnm
    have HBD:Hid (Pl.body s (Pl.kindS i) b=(o,d)):=hbd
    clear hst hy
    refine (HST.out _ (hr.al _) (starts_nms wr)).mono ?_
    rintro e w2 ⟨q1,q2,q3,q4,q5,q6,q7,q8,rfl,hr2,hg2,HSO⟩
    have HG2:Hid (Stb w.heap.size wr w2):=(Stb.refl _ wr).alloc _ |>.trans (Stb.low hg2 hrb)
    have HSZ:Hid (w.heap.size≤wr.heap.size):=hg.size
    have hR2:=(hR.alloc _).keep hg2 (by simp;omega)
    have hLb2:=(hLb.alloc _).keep hg2 (by simp;omega)
    have hrow2:=ownsRow_grown (hrow.alloc _) hg2 hrb
    have hgg:=grown_trans (grown_alloc hg _) hg2
    have hsz2:=hg2.size
    have hsz0:=hg.size
    have hsz3:=hLb2.lt
    simp only [World.size_alloc] at hsz2
    clear r0 r1 r2 r3 r4 r5 r6 rf l0 l1 l2 l3 l4 l5 l6 lf
    obtain ⟨⟨r0,r1,r2,r3,r4,r5,r6⟩,rf⟩:=hR2.seven
    obtain ⟨⟨l0,l1,l2,l3,l4,l5,l6⟩,lf⟩:=hLb2.seven
    cases o with
    | false =>
     have hRv:((O,D),C)=((false,d),c+1):=by rw [← hl];exact chn_bad s m false a c b i d hnm hbd
     simp only [Prod.mk.injEq] at hRv
     obtain ⟨⟨hO,rfl⟩,_⟩:=hRv
     have HO:Hid (O=false):=hO
     clear hO
     clear hl HC hbd hnm hsq
     clear r0 r1 r2 r3 r4 r5 r6 rf l0 l1 l2 l3 l4 l5 l6 lf
     obtain ⟨⟨r0,r1,r2,r3,r4,r5,r6⟩,rf⟩:=(hR2.alloc (.cells #[.string y,.slice q1 q2 q3,.slice q4 q5 q6,.int .i64 q7,.int .i64 q8] 96)).seven
     obtain ⟨⟨l0,l1,l2,l3,l4,l5,l6⟩,lf⟩:=(hLb2.alloc (.cells #[.string y,.slice q1 q2 q3,.slice q4 q5 q6,.int .i64 q7,.int .i64 q8] 96)).seven
     go_wp2
     obtain rfl:=HO.out
     have hc7:=seven_cells (.slice pv c cv) (.string ⟨#[]⟩) (.slice p2 n2 c2) (.slice p3 n3 c3) (.int .i64 x) (.int .i64 z) (.slice none 0 0) r0 r1 r2 r3 r4 r5 r6 _ rfl
     refine bodyPost_ret (res19 rfl rfl hc7) rfl ⟨_,_,_,_,_,_,_,_,_,_,_,_,_,_,_,rfl,?_,?_,?_,fun h=>by cases h⟩
     ·exact (Rd.seven (hr2.al _) (by omega) _ _ _ _ _ _ _)
     ·simp
     ·exact (grown_seven (grown_alloc hgg _) (Nat.le_refl _) _ _ _ _ _ _ _)
    | true =>
     by_cases e1:(y.toList == [119,111,114,100,115])=true
     ·have h3i:3≤i:=by have:=hsq.1;simp [e1] at this;exact this
      have HN:Hid (tl s m d (c+1)=((O,D),C)):=by rw [← hl];exact (chn_cut s m false a c b i d hnm hbd (.inr h3i)).symm
      have HE:Hid (y.toList.isEmpty=false):=hsq.2
      have H3:Hid (3≤i):=h3i
      have STC:Hid (Stb w.heap.size w2 ((((((w2.setCell ⟨w.heap.size+1,1,none⟩ (.string y)).setCell ⟨w.heap.size+1,2,none⟩ (.slice q1 q2 q3)).setCell ⟨w.heap.size+1,3,none⟩ (.slice q4 q5 q6)).setCell ⟨w.heap.size+1,4,none⟩ (.int .i64 q7)).setCell ⟨w.heap.size+1,5,none⟩ (.int .i64 q8)).alloc (.cells #[.string y,.slice q1 q2 q3,.slice q4 q5 q6,.int .i64 q7,.int .i64 q8] 96))):=Stb.alloc (Stb.blk (grown_trans (grown_trans (grown_trans (grown_trans (grown_set w2 _ 1 _) (grown_set _ _ 2 _)) (grown_set _ _ 3 _)) (grown_set _ _ 4 _)) (grown_set _ _ 5 _)) hLb2 (by decide) (by decide)) _
      clear hl HC hbd hnm hsq h3i
      go_wp2
      go_roundw
      case rel =>
       refine ⟨d,c,.slice pv c cv,xs,y,q1,q2,q3,q4,q5,q6,q7,q8,es,?_,hdf.2,?_,?_,?_,?_,?_,by omega,.inr ⟨HE.out,m,by omega,HN.out,Pl.spC s y (Pl.kindS i) b,rfl,⟨i,b,d,hi6,H3.out,by rw [HY.out],HBD.out,hbf.2⟩,StO.stb ((HSO.out (by simp)).lower (by have:=HSZ.out;simp;omega)) STC.out,by rw [← HTT.out,chC_cut s m a b i d HNM.out HBD.out H3.out hi6,HY.out]⟩⟩
       ·exact ⟨HS.out.1,HS.out.2.1,HS.out.2.2.stb (HG2.out.trans STC.out)⟩
       ·exact (((((hr2.other (by omega) 1 _).other (by omega) 2 _).other (by omega) 3 _).other (by omega) 4 _).other (by omega) 5 _).al _
       ·exact (((((hR2.setO (by omega) 1 _).setO (by omega) 2 _).setO (by omega) 3 _).setO (by omega) 4 _).setO (by omega) 5 _).alloc _
       ·exact (((((hLb2.s1 (.string y)).s2 (.slice q1 q2 q3)).s3 (.slice q4 q5 q6)).s4 (.int .i64 q7)).s5 (.int .i64 q8)).alloc _
       ·have hne:=row_ne_blk hrow2 hLb2 (by decide)
        exact (ownsRow_set_other (ownsRow_set_other (ownsRow_set_other (ownsRow_set_other (ownsRow_set_other hrow2 hne 1 _) hne 2 _) hne 3 _) hne 4 _) hne 5 _).alloc _
       ·exact grown_alloc (grown_set_new (grown_set_new (grown_set_new (grown_set_new (grown_set_new hgg (by omega) 1 _) (by omega) 2 _) (by omega) 3 _) (by omega) 4 _) (by omega) 5 _) _
      case measure =>
       rw [plc_eq ((((((hr2.other (b:=w.heap.size+1) (by omega) 1 (.string y)).other (b:=w.heap.size+1) (by omega) 2 (.slice q1 q2 q3)).other (b:=w.heap.size+1) (by omega) 3 (.slice q4 q5 q6)).other (b:=w.heap.size+1) (by omega) 4 (.int .i64 q7)).other (b:=w.heap.size+1) (by omega) 5 (.int .i64 q8)).al _),plc_eq hr];omega
     ·have e1:(y.toList == [119,111,114,100,115])=false:=eq_false_of_ne_true e1
      by_cases e2:(y.toList == [98,108,97,110,107,115])=true
      ·have h3i:3≤i:=by have:=hsq.1;simp [e1,e2] at this;exact this
       have HN:Hid (tl s m d (c+1)=((O,D),C)):=by rw [← hl];exact (chn_cut s m false a c b i d hnm hbd (.inr h3i)).symm
       have HE:Hid (y.toList.isEmpty=false):=hsq.2
       have H3:Hid (3≤i):=h3i
       have STC:Hid (Stb w.heap.size w2 ((((((w2.setCell ⟨w.heap.size+1,1,none⟩ (.string y)).setCell ⟨w.heap.size+1,2,none⟩ (.slice q1 q2 q3)).setCell ⟨w.heap.size+1,3,none⟩ (.slice q4 q5 q6)).setCell ⟨w.heap.size+1,4,none⟩ (.int .i64 q7)).setCell ⟨w.heap.size+1,5,none⟩ (.int .i64 q8)).alloc (.cells #[.string y,.slice q1 q2 q3,.slice q4 q5 q6,.int .i64 q7,.int .i64 q8] 96))):=Stb.alloc (Stb.blk (grown_trans (grown_trans (grown_trans (grown_trans (grown_set w2 _ 1 _) (grown_set _ _ 2 _)) (grown_set _ _ 3 _)) (grown_set _ _ 4 _)) (grown_set _ _ 5 _)) hLb2 (by decide) (by decide)) _
       clear hl HC hbd hnm hsq h3i
       go_wp2
       go_roundw
       case rel =>
        refine ⟨d,c,.slice pv c cv,xs,y,q1,q2,q3,q4,q5,q6,q7,q8,es,?_,hdf.2,?_,?_,?_,?_,?_,by omega,.inr ⟨HE.out,m,by omega,HN.out,Pl.spC s y (Pl.kindS i) b,rfl,⟨i,b,d,hi6,H3.out,by rw [HY.out],HBD.out,hbf.2⟩,StO.stb ((HSO.out (by simp)).lower (by have:=HSZ.out;simp;omega)) STC.out,by rw [← HTT.out,chC_cut s m a b i d HNM.out HBD.out H3.out hi6,HY.out]⟩⟩
        ·exact ⟨HS.out.1,HS.out.2.1,HS.out.2.2.stb (HG2.out.trans STC.out)⟩
        ·exact (((((hr2.other (by omega) 1 _).other (by omega) 2 _).other (by omega) 3 _).other (by omega) 4 _).other (by omega) 5 _).al _
        ·exact (((((hR2.setO (by omega) 1 _).setO (by omega) 2 _).setO (by omega) 3 _).setO (by omega) 4 _).setO (by omega) 5 _).alloc _
        ·exact (((((hLb2.s1 (.string y)).s2 (.slice q1 q2 q3)).s3 (.slice q4 q5 q6)).s4 (.int .i64 q7)).s5 (.int .i64 q8)).alloc _
        ·have hne:=row_ne_blk hrow2 hLb2 (by decide)
         exact (ownsRow_set_other (ownsRow_set_other (ownsRow_set_other (ownsRow_set_other (ownsRow_set_other hrow2 hne 1 _) hne 2 _) hne 3 _) hne 4 _) hne 5 _).alloc _
        ·exact grown_alloc (grown_set_new (grown_set_new (grown_set_new (grown_set_new (grown_set_new hgg (by omega) 1 _) (by omega) 2 _) (by omega) 3 _) (by omega) 4 _) (by omega) 5 _) _
       case measure =>
        rw [plc_eq ((((((hr2.other (b:=w.heap.size+1) (by omega) 1 (.string y)).other (b:=w.heap.size+1) (by omega) 2 (.slice q1 q2 q3)).other (b:=w.heap.size+1) (by omega) 3 (.slice q4 q5 q6)).other (b:=w.heap.size+1) (by omega) 4 (.int .i64 q7)).other (b:=w.heap.size+1) (by omega) 5 (.int .i64 q8)).al _),plc_eq hr];omega
      ·have e2:(y.toList == [98,108,97,110,107,115])=false:=eq_false_of_ne_true e2
       by_cases e3:(y.toList == [119,104,111,108,101])=true
       ·have h3i:3≤i:=by have:=hsq.1;simp [e1,e2,e3] at this;exact this
        have HN:Hid (tl s m d (c+1)=((O,D),C)):=by rw [← hl];exact (chn_cut s m false a c b i d hnm hbd (.inr h3i)).symm
        have HE:Hid (y.toList.isEmpty=false):=hsq.2
        have H3:Hid (3≤i):=h3i
        have STC:Hid (Stb w.heap.size w2 ((((((w2.setCell ⟨w.heap.size+1,1,none⟩ (.string y)).setCell ⟨w.heap.size+1,2,none⟩ (.slice q1 q2 q3)).setCell ⟨w.heap.size+1,3,none⟩ (.slice q4 q5 q6)).setCell ⟨w.heap.size+1,4,none⟩ (.int .i64 q7)).setCell ⟨w.heap.size+1,5,none⟩ (.int .i64 q8)).alloc (.cells #[.string y,.slice q1 q2 q3,.slice q4 q5 q6,.int .i64 q7,.int .i64 q8] 96))):=Stb.alloc (Stb.blk (grown_trans (grown_trans (grown_trans (grown_trans (grown_set w2 _ 1 _) (grown_set _ _ 2 _)) (grown_set _ _ 3 _)) (grown_set _ _ 4 _)) (grown_set _ _ 5 _)) hLb2 (by decide) (by decide)) _
        clear hl HC hbd hnm hsq h3i
        go_wp2
        go_roundw
        case rel =>
         refine ⟨d,c,.slice pv c cv,xs,y,q1,q2,q3,q4,q5,q6,q7,q8,es,?_,hdf.2,?_,?_,?_,?_,?_,by omega,.inr ⟨HE.out,m,by omega,HN.out,Pl.spC s y (Pl.kindS i) b,rfl,⟨i,b,d,hi6,H3.out,by rw [HY.out],HBD.out,hbf.2⟩,StO.stb ((HSO.out (by simp)).lower (by have:=HSZ.out;simp;omega)) STC.out,by rw [← HTT.out,chC_cut s m a b i d HNM.out HBD.out H3.out hi6,HY.out]⟩⟩
         ·exact ⟨HS.out.1,HS.out.2.1,HS.out.2.2.stb (HG2.out.trans STC.out)⟩
         ·exact (((((hr2.other (by omega) 1 _).other (by omega) 2 _).other (by omega) 3 _).other (by omega) 4 _).other (by omega) 5 _).al _
         ·exact (((((hR2.setO (by omega) 1 _).setO (by omega) 2 _).setO (by omega) 3 _).setO (by omega) 4 _).setO (by omega) 5 _).alloc _
         ·exact (((((hLb2.s1 (.string y)).s2 (.slice q1 q2 q3)).s3 (.slice q4 q5 q6)).s4 (.int .i64 q7)).s5 (.int .i64 q8)).alloc _
         ·have hne:=row_ne_blk hrow2 hLb2 (by decide)
          exact (ownsRow_set_other (ownsRow_set_other (ownsRow_set_other (ownsRow_set_other (ownsRow_set_other hrow2 hne 1 _) hne 2 _) hne 3 _) hne 4 _) hne 5 _).alloc _
         ·exact grown_alloc (grown_set_new (grown_set_new (grown_set_new (grown_set_new (grown_set_new hgg (by omega) 1 _) (by omega) 2 _) (by omega) 3 _) (by omega) 4 _) (by omega) 5 _) _
        case measure =>
         rw [plc_eq ((((((hr2.other (b:=w.heap.size+1) (by omega) 1 (.string y)).other (b:=w.heap.size+1) (by omega) 2 (.slice q1 q2 q3)).other (b:=w.heap.size+1) (by omega) 3 (.slice q4 q5 q6)).other (b:=w.heap.size+1) (by omega) 4 (.int .i64 q7)).other (b:=w.heap.size+1) (by omega) 5 (.int .i64 q8)).al _),plc_eq hr];omega
       ·have e3:(y.toList == [119,104,111,108,101])=false:=eq_false_of_ne_true e3
        have h3i:¬ 3≤i:=by have:=hsq.1;simp [e1,e2,e3] at this;omega
        have hce:=chn_early s m a c b i d hnm hbd h3i
        rw [hl] at hce
        have HNB:Hid (∀ C,((w2.alloc C).alloc (.cells #[.string y,.slice q1 q2 q3,.slice q4 q5 q6,.int .i64 q7,.int .i64 q8] 96)).heap[w2.heap.size+1]?=some (.cells #[.string y,.slice q1 q2 q3,.slice q4 q5 q6,.int .i64 q7,.int .i64 q8] 96 (0,0))):=fun C=>by
         have:=heap_alloc_new (w2.alloc C) (.cells #[.string y,.slice q1 q2 q3,.slice q4 q5 q6,.int .i64 q7,.int .i64 q8] 96)
         simpa using this
        obtain ⟨⟨o5,d5⟩,hs5⟩:∃ r,Pl.sign s 59 d=r:=⟨_,rfl⟩
        have hsg:=fun W h=>sign_at rb s d 59 59 rfl W hm hdf.2 h
        rw [hs5] at hsg
        have HSG:Hid (∀ W,Rd rb s d W→Calls Tryz.prog 124 #[.pointer (some ⟨rb,0,none⟩),.int .u8 59] W fun e w'=>e=.returned (.bool o5)∧Rd rb s d5 w'∧W.grownBy w' (some rb)):=hsg
        have HCE:Hid (((O,D),C)=if Pl.byteIn s 59 59 d=true then Pl.chn s m false (d+1) (c+1) else ((false,d),c+1)):=hce
        have HS5:Hid (Pl.sign s 59 d=(o5,d5)):=hs5
        have H3N:Hid (¬ 3≤i):=h3i
        clear hl HC hbd hnm hsq h3i hce hsg hs5
        have hs3:Rd rb s d (w2.alloc (.cells #[.string y,.slice q1 q2 q3,.slice q4 q5 q6,.int .i64 q7,.int .i64 q8] 96)):=hr2.al _
        go_wp2_with (at_builtin;go_must (refine wpList_append_lies _ (by rfl) _ _ 93 (by rfl) w.heap.size 96 i0 (.agg #[.string ⟨#[]⟩,.slice none 0 0,.slice none 0 0,.int .i64 0,.int .i64 0]) 5 80 Tryz.underlying93 hi hz0 hz1 hz2 rfl (by decide) _ c xs (by rfl) ((hrow2.alloc _).alloc _) ⟨w2.heap.size+1,0,none⟩ 1 1 [.string y,.slice q1 q2 q3,.slice q4 q5 q6,.int .i64 q7,.int .i64 q8] (by rfl) rfl (World.news_of_block (HNB.out _)) (by simp [Value.oneCell']) (by decide) (by unfold maxLen;omega) (by omega) (by simp;omega) (w2.heap.size+1+1) (by simp) ?_);intro g cap w3 hown hgrow hat hlt3;have hne3:=row_ne_blk hrow2 hLb2 (by decide);have hLb3:=((hLb2.alloc (.cells #[.string y,.slice q1 q2 q3,.slice q4 q5 q6,.int .i64 q7,.int .i64 q8] 96)).alloc (.cells #[.string y,.slice q1 q2 q3,.slice q4 q5 q6,.int .i64 q7,.int .i64 q8] 96)).keep hgrow hne3;have hR3:=((hR2.alloc (.cells #[.string y,.slice q1 q2 q3,.slice q4 q5 q6,.int .i64 q7,.int .i64 q8] 96)).alloc (.cells #[.string y,.slice q1 q2 q3,.slice q4 q5 q6,.int .i64 q7,.int .i64 q8] 96)).keep hgrow (row_ne_blk hrow2 hR2 (by decide));obtain ⟨⟨f0,f1,f2,f3,f4,f5,f6⟩,mf⟩:=hLb3.seven)
        have hge:∀ x,(Value.slice pv c cv).ownBlock=some x→w.heap.size≤x:=fun x e=>(ownBlock_lt hrow2 e).2
        have hr4:=((hs3.al (.cells #[.string y,.slice q1 q2 q3,.slice q4 q5 q6,.int .i64 q7,.int .i64 q8] 96)).grown hgrow (by intro e;have:=hge _ e;omega)).other (b:=w.heap.size+1) (by omega) 0 (Value.slice (some ⟨g,0,none⟩) (c+1) cap)
        have hg4:w.grownBy (w3.setCell ⟨w.heap.size+1,0,none⟩ (Value.slice (some ⟨g,0,none⟩) (c+1) cap)) (some rb):=grown_set_new (grown_own (grown_alloc (grown_alloc hgg _) _) hgrow hge) (by omega) _ _
        have hrow4:=ownsRow_set_other hown (row_ne_blk hown hLb3 (by decide)) 0 (Value.slice (some ⟨g,0,none⟩) (c+1) cap)
        have hLb4:=hLb3.s0 (Value.slice (some ⟨g,0,none⟩) (c+1) cap)
        have hR4:=hR3.setO (b2:=w.heap.size+1) (by omega) 0 (Value.slice (some ⟨g,0,none⟩) (c+1) cap)
        refine (HSG.out _ hr4).mono ?_
        rintro e w5 ⟨rfl,hr5,hg5⟩
        have hR5:=hR4.keep hg5 (by simp;omega)
        have hLb5:=hLb4.keep hg5 (by simp;omega)
        have hrow5:=ownsRow_grown hrow4 hg5 hrb
        have hgw5:=grown_trans hg4 hg5
        have STA:Hid (Stb w.heap.size w2 w5):=(((((Stb.refl _ w2).alloc _).alloc _).trans (Stb.row hgrow ((hrow2.alloc _).alloc _) (by decide) (by decide))).trans (Stb.blk (grown_set w3 _ 0 _) hLb3 (by decide) (by decide))).trans (Stb.low hg5 hrb)
        clear hR4 hLb4 hrow4 hg4 hr4 hR3 hLb3 hown hgrow hat f0 f1 f2 f3 f4 f5 f6 mf hR2 hLb2 hrow2 hr2 hs3 r0 r1 r2 r3 r4 r5 r6 rf l0 l1 l2 l3 l4 l5 l6 lf hne3
        obtain ⟨⟨r0,r1,r2,r3,r4,r5,r6⟩,rf⟩:=hR5.seven
        obtain ⟨⟨l0,l1,l2,l3,l4,l5,l6⟩,lf⟩:=hLb5.seven
        by_cases h59:Pl.byteIn s 59 59 d=true
        ·have hd59:=(Pl.byteIn_lt h59).1
         have h6:=HS5.out
         simp only [Pl.sign,h59,if_true,Prod.mk.injEq] at h6
         obtain ⟨rfl,rfl⟩:=h6
         have HN:Hid (Pl.chn s m false (d+1) (c+1)=((O,D),C)):=by have:=HCE.out;rw [if_pos h59] at this;exact this.symm
         have H59:Hid (Pl.byteIn s 59 59 d=true):=h59
         clear h59 HCE HS5
         go_wp2
         go_roundw
         case rel =>
          refine ⟨d+1,c+1,_,_,_,_,_,_,_,_,_,_,_,es++[Pl.spC s y (Pl.kindS i) b],⟨by rw [HS.out.1];simp,?_,?_⟩,by omega,hr5,hR5,hLb5,hrow5,hgw5,by omega,.inl ⟨rfl,m,by omega,HN.out,?_⟩⟩
          ·intro e he
           rcases List.mem_append.1 he with h | h
           ·exact HS.out.2.1 e h
           ·obtain rfl:=List.mem_singleton.1 h
            exact ⟨i,b,d,hi6,by have:=H3N.out;omega,by rw [HY.out],HBD.out,hbf.2⟩
          ·exact (HS.out.2.2.stb (HG2.out.trans STA.out)).snoc (Pl.spC s y (Pl.kindS i) b) _ _ _ _ (StO.stb ((HSO.out (by simp)).lower (by have:=HSZ.out;simp;omega)) STA.out)
          ·rw [← HTT.out,chC_early s m a b i d HNM.out HBD.out H3N.out hi6 H59.out,HY.out];simp
         case measure=>rw [plc_eq hr5,plc_eq hr];omega
        ·have h59':Pl.byteIn s 59 59 d=false:=eq_false_of_ne_true h59
         have h6:=HS5.out
         simp only [Pl.sign,h59',Bool.false_eq_true,if_false,Prod.mk.injEq] at h6
         obtain ⟨rfl,rfl⟩:=h6
         have hRv:=HCE.out
         rw [if_neg h59] at hRv
         simp only [Prod.mk.injEq] at hRv
         obtain ⟨⟨hO,rfl⟩,_⟩:=hRv
         have HO:Hid (O=false):=hO
         clear hO
         clear h59 h59' HCE HS5
         go_wp2
         obtain rfl:=HO.out
         have hc7:=seven_cells (.slice (some ⟨g,0,none⟩) (c+1) cap) (.string ⟨#[]⟩) (.slice p2 n2 c2) (.slice p3 n3 c3) (.int .i64 x) (.int .i64 z) (.slice none 0 0) r0 r1 r2 r3 r4 r5 r6 _ rfl
         refine bodyPost_ret (res19 rfl rfl (hc7)) rfl ⟨_,_,_,_,_,_,_,_,_,_,_,_,_,_,_,rfl,?_,?_,?_,fun h=>by cases h⟩
         ·exact (Rd.seven hr5 (by omega) _ _ _ _ _ _ _)
         ·simp
         ·exact (grown_seven hgw5 (Nat.le_refl _) _ _ _ _ _ _ _)
  ·clear HC
   obtain ⟨pv,cv,rfl⟩:=slice_of hrow
   have HL:Hid (tl s m a (c+1)=((O,D),C)):=hl
   clear hl
   obtain ⟨cu,hcn,hci,hco,hcT⟩:=hcu
   have HCN:Hid (cu.nm=t∧Pl.isC s cu):=⟨hcn,hci⟩
   have HQ0:Hid (Sts w.heap.size [] [] wr∧StO w.heap.size cu (.slice p2 n2 c2) (.slice p3 n3 c3) x z wr∧Sts w.heap.size es xs wr∧wr.ownsRow w.heap.size 96 5 (.slice pv c cv) c xs):=⟨Sts.nil _ _,hco,HS.out.2.2,hrow⟩
   have HES:Hid (c=es.length∧∀ e∈es,Pl.isE s e):=⟨HS.out.1,HS.out.2.1⟩
   have HCT:Hid (es++cu :: Pl.tlC s m a=T):=hcT
   clear hcn hci hco hcT HS
   go_wp2
   go_loopw [8] (fun _ wq=>∃ (a2 k:Nat) (vl:Value) (ys:List Value) (ls:List Sp),Hid (k=ls.length∧(∀ e∈ls,Pl.isL s e)∧Sts w.heap.size ls ys wq∧StO w.heap.size cu (.slice p2 n2 c2) (.slice p3 n3 c3) x z wq∧Sts w.heap.size es xs wq∧wq.ownsRow w.heap.size 96 5 (.slice pv c cv) c xs∧∀ r,vl.ownBlock=some r→(Value.slice pv c cv).ownBlock≠some r)∧a2≤s.size∧Rd rb s a2 wq∧Blk w.heap.size 98 #[.slice none 0 0,.string ⟨#[]⟩,.slice none 0 0,.slice none 0 0,.int .i64 0,.int .i64 0,.slice none 0 0] wq∧Blk (w.heap.size+1) 98 #[.slice pv c cv,.string t,.slice p2 n2 c2,.slice p3 n3 c3,.int .i64 x,.int .i64 z,vl] wq∧wq.ownsRow w.heap.size 96 5 vl k ys∧w.grownBy wq (some rb)∧k≤a2 ∧
    Hid (∃ m,s.size<a2+m∧tl s m a2 (c+1+k)=((O,D),C)∧es++cu :: (ls++Pl.tlC s m a2)=T)) (fun _ wq=>200 - plc rb wq)
   case atStart=>exact ⟨a,0,_,[],[],⟨rfl,fun _ h=>(by cases h),HQ0.out.1,HQ0.out.2.1,HQ0.out.2.2.1,HQ0.out.2.2.2,fun r e=>by simp [Value.ownBlock] at e⟩,ha,hr,hR,hLb,World.ownsRow_nil _ _ _ _,hg,by omega,⟨m,hbm,HL.out,HCT.out⟩⟩
   case round =>
    obtain ⟨a2,k,vl,ys,ls,HQ,ha2,hr',hR',hLb',hrow',hg',hka,HC2⟩:=hrel
    obtain ⟨pl,cl,rfl⟩:=slice_of hrow'
    obtain ⟨m2,hbm2,hl2,hT2⟩:=HC2.out
    have HT2:Hid (es++cu :: (ls++Pl.tlC s m2 a2)=T):=hT2
    clear hT2 HQ0 HCT
    have c0:=hr'.c0
    have c1:=hr'.c1
    clear r0 r1 r2 r3 r4 r5 r6 rf l0 l1 l2 l3 l4 l5 l6 lf hr hR hLb hrow hg HL HC2
    obtain ⟨⟨r0,r1,r2,r3,r4,r5,r6⟩,rf⟩:=hR'.seven
    obtain ⟨⟨l0,l1,l2,l3,l4,l5,l6⟩,lf⟩:=hLb'.seven
    by_cases hend:a2=s.size
    ·have hdN:decide (a2<s.size)=false:=by simp;omega
     have HEND:Hid (a2=s.size):=hend
     have hRv:((O,D),C)=((true,a2),c+1+k):=by rw [← hl2];unfold tl;rw [if_pos hend]
     simp only [Prod.mk.injEq] at hRv
     obtain ⟨⟨hO,rfl⟩,rfl⟩:=hRv
     have HO:Hid (O=true):=hO
     clear hO
     clear hend hl2
     go_wp2_with fail
     go_quiet (fail)
     go_wp2
     obtain rfl:=HO.out
     have hc7:=seven_cells (X:=wr.drewN nq) (.slice pv c cv) (.string t) (.slice p2 n2 c2) (.slice p3 n3 c3) (.int .i64 x) (.int .i64 z) (.slice pl k cl) r0 r1 r2 r3 r4 r5 r6 _ rfl
     refine bodyPost_ret (res19 rfl rfl hc7) rfl ⟨_,_,_,_,_,_,_,_,_,_,_,_,_,_,_,rfl,?_,fun _=>rfl,?_,fun _=>?_⟩
     ·exact (Rd.seven (hr'.of_below (below_drewN (Below.refl _ _) _)) (by omega) _ _ _ _ _ _ _)
     ·exact (grown_seven (grown_trans hg' (grown_drewN _ _ _)) (Nat.le_refl _) _ _ _ _ _ _ _)
     ·obtain ⟨hk,hL,h1,h2,h3,h4,h5⟩:=HQ.out
      have h6:=HT2.out
      rw [HEND.out,tlC_end,List.append_nil] at h6
      have g7:=grown_seven_self (wr.drewN nq) w.heap.size (.slice pv c cv) (.string t) (.slice p2 n2 c2) (.slice p3 n3 c3) (.int .i64 x) (.int .i64 z) (.slice pl k cl)
      have st7:Stb w.heap.size wr _:=(Stb.of_grown (grown_drewN wr nq none) (fun r e=>by cases e)).trans (Stb.blk g7 (show Blk w.heap.size 98 _ (wr.drewN nq) from hR') (by decide) (by decide))
      have e4:=ownsRow_keep (ownsRow_grown h4 (grown_drewN wr nq (some rb)) hrb) g7 (fun r e=>by cases e;exact .inr (row_ne_blk h4 hR' (by decide)))
      have el:=ownsRow_keep (ownsRow_grown hrow' (grown_drewN wr nq (some rb)) hrb) g7 (fun r e=>by cases e;exact .inr (row_ne_blk hrow' hR' (by decide)))
      exact ⟨es,cu,ls,xs,ys,h6.symm,HES.out.1,hk,HCN.out.1,HES.out.2,HCN.out.2,hL,e4,h3.stb st7,h2.stb st7,el,h1.stb st7⟩
    ·have hdl:(a2:Int)<(s.size:Int):=by omega
     have htl:((O,D),C)=if Pl.byteIn s 59 59 a2=true then Pl.chn s m2 true (a2+1) (c+1+k) else ((false,a2),c+1+k):=by rw [← hl2];unfold tl;rw [if_neg hend]
     have hlt2:a2<s.size:=by omega
     clear hl2 hend
     by_cases h59:Pl.byteIn s 59 59 a2=true
     ·rw [if_pos h59] at htl
      have hsg:=fun W h=>sign_at rb s a2 59 59 rfl W hm ha2 h
      simp only [Pl.sign,h59,if_true] at hsg
      have HSG:Hid (∀ W,Rd rb s a2 W→Calls Tryz.prog 124 #[.pointer (some ⟨rb,0,none⟩),.int .u8 59] W fun e w'=>e=.returned (.bool true)∧Rd rb s (a2+1) w'∧W.grownBy w' (some rb)):=hsg
      have H59:Hid (Pl.byteIn s 59 59 a2=true):=h59
      have HA2:Hid (a2≠s.size):=by show a2≠s.size;omega
      clear hsg h59
      obtain ⟨m2,rfl⟩:∃ m',m2=m'+1:=⟨m2 - 1,by omega⟩
      obtain ⟨⟨res,b⟩,hnm⟩:∃ r,Pl.nm s (a2+1) Pl.lates 0 0=r:=⟨_,rfl⟩
      have hbf:=nm_le s (a2+1) (by omega) Pl.lates 0 0 res b (by omega) hnm
      go_wp2_with fail
      go_quiet (fail)
      go_wp2_with fail
      refine (HSG.out _ (hr'.of_below (below_drewN (Below.refl _ _) _))).mono ?_
      rintro e wS ⟨rfl,hrS,hgS⟩
      have hgd:=grown_trans (grown_drewN wr nq (some rb)) hgS
      have hRS:=hR'.keep hgd (by simp;omega)
      have hLbS:=hLb'.keep hgd (by simp;omega)
      have hrowS:=ownsRow_grown hrow' hgd hrb
      have HGD:Hid (Stb w.heap.size wr wS∧wS.ownsRow w.heap.size 96 5 (.slice pv c cv) c xs∧w.heap.size≤wS.heap.size):=⟨Stb.low hgd hrb,ownsRow_grown HQ.out.2.2.2.2.2.1 hgd hrb,by have h1:=hg'.size;have h2:=hgd.size;omega⟩
      have hgS2:=grown_trans hg' hgd
      clear c0 c1 hR' hLb' hrow' hg' hgS hgd
      clear r0 r1 r2 r3 r4 r5 r6 rf l0 l1 l2 l3 l4 l5 l6 lf
      obtain ⟨⟨r0,r1,r2,r3,r4,r5,r6⟩,rf⟩:=hRS.seven
      obtain ⟨⟨l0,l1,l2,l3,l4,l5,l6⟩,lf⟩:=hLbS.seven
      go_wp2_with fail
      cases res with
      | none =>
       have hRv:((O,D),C)=((false,b),c+1+k):=by rw [htl];exact chn_none s m2 true (a2+1) (c+1+k) b hnm
       simp only [Prod.mk.injEq] at hRv
       obtain ⟨⟨hO,rfl⟩,_⟩:=hRv
       have HO:Hid (O=false):=hO
       clear hO
       clear htl
       refine (step_late_no rb _ s (a2+1) _ hm (by omega) (hrS.al _) (lates_nms wS) D hnm hbf.2).mono ?_
       rintro e w2 ⟨q1,q2,q3,q4,q5,q6,q7,q8,rfl,hr2,hg2⟩
       have hR2:=(hRS.alloc _).keep hg2 (by simp;omega)
       have hLb2:=(hLbS.alloc _).keep hg2 (by simp;omega)
       have hgg:=grown_trans (grown_alloc hgS2 _) hg2
       have hsz3:=hLb2.lt
       clear r0 r1 r2 r3 r4 r5 r6 rf l0 l1 l2 l3 l4 l5 l6 lf
       obtain ⟨⟨r0,r1,r2,r3,r4,r5,r6⟩,rf⟩:=hR2.seven
       obtain ⟨⟨l0,l1,l2,l3,l4,l5,l6⟩,lf⟩:=hLb2.seven
       clear r0 r1 r2 r3 r4 r5 r6 rf l0 l1 l2 l3 l4 l5 l6 lf
       obtain ⟨⟨r0,r1,r2,r3,r4,r5,r6⟩,rf⟩:=(hR2.alloc (.cells #[.string ⟨#[]⟩,.slice q1 q2 q3,.slice q4 q5 q6,.int .i64 q7,.int .i64 q8] 96)).seven
       obtain ⟨⟨l0,l1,l2,l3,l4,l5,l6⟩,lf⟩:=(hLb2.alloc (.cells #[.string ⟨#[]⟩,.slice q1 q2 q3,.slice q4 q5 q6,.int .i64 q7,.int .i64 q8] 96)).seven
       go_wp2
       obtain rfl:=HO.out
       have hc7:=seven_cells (.slice pv c cv) (.string t) (.slice p2 n2 c2) (.slice p3 n3 c3) (.int .i64 x) (.int .i64 z) (.slice pl k cl) r0 r1 r2 r3 r4 r5 r6 _ rfl
       refine bodyPost_ret (res19 rfl rfl hc7) rfl ⟨_,_,_,_,_,_,_,_,_,_,_,_,_,_,_,rfl,?_,?_,?_,fun h=>by cases h⟩
       ·exact (Rd.seven (hr2.al _) (by omega) _ _ _ _ _ _ _)
       ·simp
       ·exact (grown_seven (grown_alloc hgg _) (Nat.le_refl _) _ _ _ _ _ _ _)
      | some i =>
       have hpos:=nm_pos s (a2+1) Pl.lates 0 0 i b lates_pos hnm
       have hi6:i<Pl.lates.length:=by
        rcases Nat.lt_or_ge i Pl.lates.length with h' | h'
        ·exact h'
        ·exact absurd hnm (nm_lt s (a2+1) Pl.lates 0 0 i b (by omega))
       obtain ⟨⟨o,d⟩,hbd⟩:∃ r,Pl.body s (Pl.kindL i) b=r:=⟨_,rfl⟩
       have hdf:=body_fits s (Pl.kindL i) b hbf.2
       rw [hbd] at hdf
       have hst:=fun W h1 h2=>step_late rb wS.heap.size s (a2+1) W hm (by omega) h1 h2 i b hi6 hnm hbf.2 o d hbd
       obtain ⟨y,hy⟩:∃ y,Pl.lates[i]'hi6=y:=⟨_,rfl⟩
       rw [hy] at hst
       have HST:Hid (∀ W,Rd rb s (a2+1) W→Nms wS.heap.size Pl.lates W→Calls Tryz.prog 123 #[.pointer (some ⟨rb,0,none⟩),.slice (some ⟨wS.heap.size,0,none⟩) 7 7] W fun e w'=>∃ p1 n1 d1 p2 n2 d2,∃ x z:Int,e=.returned (.tuple #[.agg #[.string y,.slice p1 n1 d1,.slice p2 n2 d2,.int .i64 x,.int .i64 z],.bool o])∧Rd rb s d w'∧W.grownBy w' (some rb)∧Hid (o=true→StO W.heap.size (Pl.spC s y (Pl.kindL i) b) (.slice p1 n1 d1) (.slice p2 n2 d2) x z w')):=hst
       have HY:Hid (Pl.lates[i]'hi6=y):=hy
       have HNM:Hid (Pl.nm s (a2+1) Pl.lates 0 0=(some i,b)):=hnm
       have HBD:Hid (Pl.body s (Pl.kindL i) b=(o,d)):=hbd
       clear hst hy
       refine (HST.out _ (hrS.al _) (lates_nms wS)).mono ?_
       rintro e w2 ⟨q1,q2,q3,q4,q5,q6,q7,q8,rfl,hr2,hg2,HSO⟩
       have HG2:Hid (Stb w.heap.size wS w2∧w2.ownsRow w.heap.size 96 5 (.slice pv c cv) c xs):=⟨(Stb.refl _ wS).alloc _ |>.trans (Stb.low hg2 hrb),ownsRow_grown (HGD.out.2.1.alloc _) hg2 hrb⟩
       have hR2:=(hRS.alloc _).keep hg2 (by simp;omega)
       have hLb2:=(hLbS.alloc _).keep hg2 (by simp;omega)
       have hrow2:=ownsRow_grown (hrowS.alloc _) hg2 hrb
       have hgg:=grown_trans (grown_alloc hgS2 _) hg2
       have hsz2:=hg2.size
       have hsz0:=hgS2.size
       have hsz3:=hLb2.lt
       simp only [World.size_alloc] at hsz2
       clear hRS hLbS hrowS
       clear r0 r1 r2 r3 r4 r5 r6 rf l0 l1 l2 l3 l4 l5 l6 lf
       obtain ⟨⟨r0,r1,r2,r3,r4,r5,r6⟩,rf⟩:=hR2.seven
       obtain ⟨⟨l0,l1,l2,l3,l4,l5,l6⟩,lf⟩:=hLb2.seven
       cases o with
       | false =>
        have hRv:((O,D),C)=((false,d),c+1+k+1):=by rw [htl];exact chn_bad s m2 true (a2+1) (c+1+k) b i d hnm hbd
        simp only [Prod.mk.injEq] at hRv
        obtain ⟨⟨hO,rfl⟩,_⟩:=hRv
        have HO:Hid (O=false):=hO
        clear hO
        clear htl hbd hnm
        clear r0 r1 r2 r3 r4 r5 r6 rf l0 l1 l2 l3 l4 l5 l6 lf
        obtain ⟨⟨r0,r1,r2,r3,r4,r5,r6⟩,rf⟩:=(hR2.alloc (.cells #[.string y,.slice q1 q2 q3,.slice q4 q5 q6,.int .i64 q7,.int .i64 q8] 96)).seven
        obtain ⟨⟨l0,l1,l2,l3,l4,l5,l6⟩,lf⟩:=(hLb2.alloc (.cells #[.string y,.slice q1 q2 q3,.slice q4 q5 q6,.int .i64 q7,.int .i64 q8] 96)).seven
        go_wp2
        obtain rfl:=HO.out
        have hc7:=seven_cells (.slice pv c cv) (.string t) (.slice p2 n2 c2) (.slice p3 n3 c3) (.int .i64 x) (.int .i64 z) (.slice pl k cl) r0 r1 r2 r3 r4 r5 r6 _ rfl
        refine bodyPost_ret (res19 rfl rfl hc7) rfl ⟨_,_,_,_,_,_,_,_,_,_,_,_,_,_,_,rfl,?_,?_,?_,fun h=>by cases h⟩
        ·exact (Rd.seven (hr2.al _) (by omega) _ _ _ _ _ _ _)
        ·simp
        ·exact (grown_seven (grown_alloc hgg _) (Nat.le_refl _) _ _ _ _ _ _ _)
       | true =>
        have HN:Hid (tl s m2 d (c+1+(k+1))=((O,D),C)):=by rw [htl];exact (chn_cut s m2 true (a2+1) (c+1+k) b i d hnm hbd (.inl rfl)).symm
        clear htl hbd hnm
        have HNB:Hid (∀ C,((w2.alloc C).alloc (.cells #[.string y,.slice q1 q2 q3,.slice q4 q5 q6,.int .i64 q7,.int .i64 q8] 96)).heap[w2.heap.size+1]?=some (.cells #[.string y,.slice q1 q2 q3,.slice q4 q5 q6,.int .i64 q7,.int .i64 q8] 96 (0,0))):=fun C=>by
         have:=heap_alloc_new (w2.alloc C) (.cells #[.string y,.slice q1 q2 q3,.slice q4 q5 q6,.int .i64 q7,.int .i64 q8] 96)
         simpa using this
        have hs3:Rd rb s d (w2.alloc (.cells #[.string y,.slice q1 q2 q3,.slice q4 q5 q6,.int .i64 q7,.int .i64 q8] 96)):=hr2.al _
        go_wp2_with (at_builtin;go_must (refine wpList_append_lies _ (by rfl) _ _ 93 (by rfl) w.heap.size 96 i0 (.agg #[.string ⟨#[]⟩,.slice none 0 0,.slice none 0 0,.int .i64 0,.int .i64 0]) 5 80 Tryz.underlying93 hi hz0 hz1 hz2 rfl (by decide) _ k ys (by rfl) ((hrow2.alloc _).alloc _) ⟨w2.heap.size+1,0,none⟩ 1 1 [.string y,.slice q1 q2 q3,.slice q4 q5 q6,.int .i64 q7,.int .i64 q8] (by rfl) rfl (World.news_of_block (HNB.out _)) (by simp [Value.oneCell']) (by decide) (by unfold maxLen;omega) (by omega) (by simp;omega) (w2.heap.size+1+1) (by simp) ?_);intro g cap w3 hown hgrow hat hlt3;have hne3:=row_ne_blk hrow2 hLb2 (by decide);have hLb3:=((hLb2.alloc (.cells #[.string y,.slice q1 q2 q3,.slice q4 q5 q6,.int .i64 q7,.int .i64 q8] 96)).alloc (.cells #[.string y,.slice q1 q2 q3,.slice q4 q5 q6,.int .i64 q7,.int .i64 q8] 96)).keep hgrow hne3;have hR3:=((hR2.alloc (.cells #[.string y,.slice q1 q2 q3,.slice q4 q5 q6,.int .i64 q7,.int .i64 q8] 96)).alloc (.cells #[.string y,.slice q1 q2 q3,.slice q4 q5 q6,.int .i64 q7,.int .i64 q8] 96)).keep hgrow (row_ne_blk hrow2 hR2 (by decide));obtain ⟨⟨f0,f1,f2,f3,f4,f5,f6⟩,mf⟩:=hLb3.seven)
        have hge:∀ x,(Value.slice pl k cl).ownBlock=some x→w.heap.size≤x:=fun x e=>(ownBlock_lt hrow2 e).2
        have hr4:=((hs3.al (.cells #[.string y,.slice q1 q2 q3,.slice q4 q5 q6,.int .i64 q7,.int .i64 q8] 96)).grown hgrow (by intro e;have:=hge _ e;omega)).other (b:=w.heap.size+1) (by omega) 6 (Value.slice (some ⟨g,0,none⟩) (k+1) cap)
        have hg4:w.grownBy (w3.setCell ⟨w.heap.size+1,6,none⟩ (Value.slice (some ⟨g,0,none⟩) (k+1) cap)) (some rb):=grown_set_new (grown_own (grown_alloc (grown_alloc hgg _) _) hgrow hge) (by omega) _ _
        have hrow4:=ownsRow_set_other hown (row_ne_blk hown hLb3 (by decide)) 6 (Value.slice (some ⟨g,0,none⟩) (k+1) cap)
        have hLb4:=hLb3.s6 (Value.slice (some ⟨g,0,none⟩) (k+1) cap)
        have hR4:=hR3.setO (b2:=w.heap.size+1) (by omega) 6 (Value.slice (some ⟨g,0,none⟩) (k+1) cap)
        go_wp2
        go_roundw
        case rel =>
         obtain ⟨hk,hL,h1,h2,h3,h4,h5⟩:=HQ.out
         have st2:Stb w.heap.size w2 (w3.setCell ⟨w.heap.size+1,6,none⟩ (Value.slice (some ⟨g,0,none⟩) (k+1) cap)):=((((Stb.refl _ w2).alloc _).alloc _).trans (Stb.row hgrow ((hrow2.alloc _).alloc _) (by decide) (by decide))).trans (Stb.blk (grown_set w3 _ 6 _) hLb3 (by decide) (by decide))
         have st1:=(HGD.out.1.trans HG2.out.1).trans st2
         have hne5:∀ r,(Value.slice pl k cl).ownBlock=some r→(Value.slice pv c cv).ownBlock≠some r:=h5
         have e3:=ownsRow_keep ((HG2.out.2.alloc _).alloc _) hgrow (fun r e=>.inr (hne5 r e))
         have e4:=ownsRow_set_other e3 (row_ne_blk e3 hLb3 (by decide)) 6 (Value.slice (some ⟨g,0,none⟩) (k+1) cap)
         refine ⟨d,k+1,_,_,ls++[Pl.spC s y (Pl.kindL i) b],⟨by rw [hk];simp,?_,?_,h2.stb st1,h3.stb st1,e4,?_⟩,hdf.2,hr4,hR4,hLb4,hrow4,hg4,by omega,⟨m2,by omega,HN.out,?_⟩⟩
         ·intro e he
          rcases List.mem_append.1 he with h | h
          ·exact hL e h
          ·obtain rfl:=List.mem_singleton.1 h
           exact ⟨i,b,d,hi6,by rw [HY.out],HBD.out,hbf.2⟩
         ·exact (h1.stb st1).snoc (Pl.spC s y (Pl.kindL i) b) _ _ _ _ (StO.stb ((HSO.out (by simp)).lower (by have:=HGD.out.2.2;simp;omega)) st2)
         ·intro r e
          obtain rfl:g=r:=by simpa [Value.ownBlock] using e
          rcases hat with h | h
          ·exact hne5 _ h
          ·intro e2
           have:=(ownBlock_lt HG2.out.2 e2).1
           omega
         ·rw [← HT2.out,tlC_more s (m2+1) a2 HA2.out H59.out,chC_late s m2 (a2+1) b i d HNM.out HBD.out hi6,HY.out];simp
        case measure=>rw [plc_eq hr4,plc_eq hr'];omega
     ·rw [if_neg h59] at htl
      simp only [Prod.mk.injEq] at htl
      obtain ⟨⟨hO,rfl⟩,_⟩:=htl
      have HO:Hid (O=false):=hO
      clear hO
      have h59':Pl.byteIn s 59 59 D=false:=eq_false_of_ne_true h59
      have hsg:=fun W h=>sign_at rb s D 59 59 rfl W hm ha2 h
      simp only [Pl.sign,h59',Bool.false_eq_true,if_false] at hsg
      have HSG:Hid (∀ W,Rd rb s D W→Calls Tryz.prog 124 #[.pointer (some ⟨rb,0,none⟩),.int .u8 59] W fun e w'=>e=.returned (.bool false)∧Rd rb s D w'∧W.grownBy w' (some rb)):=hsg
      clear hsg h59 h59'
      go_wp2_with fail
      go_quiet (fail)
      go_wp2_with fail
      refine (HSG.out _ (hr'.of_below (below_drewN (Below.refl _ _) _))).mono ?_
      rintro e wS ⟨rfl,hrS,hgS⟩
      have hgd:=grown_trans (grown_drewN wr nq (some rb)) hgS
      have hRS:=hR'.keep hgd (by simp;omega)
      have hLbS:=hLb'.keep hgd (by simp;omega)
      have hgS2:=grown_trans hg' hgd
      clear c0 c1 hR' hLb' hrow' hg' hgS hgd
      clear r0 r1 r2 r3 r4 r5 r6 rf l0 l1 l2 l3 l4 l5 l6 lf
      obtain ⟨⟨r0,r1,r2,r3,r4,r5,r6⟩,rf⟩:=hRS.seven
      obtain ⟨⟨l0,l1,l2,l3,l4,l5,l6⟩,lf⟩:=hLbS.seven
      go_wp2
      obtain rfl:=HO.out
      have hc7:=seven_cells (.slice pv c cv) (.string t) (.slice p2 n2 c2) (.slice p3 n3 c3) (.int .i64 x) (.int .i64 z) (.slice pl k cl) r0 r1 r2 r3 r4 r5 r6 _ rfl
      refine bodyPost_ret (res19 rfl rfl hc7) rfl ⟨_,_,_,_,_,_,_,_,_,_,_,_,_,_,_,rfl,?_,?_,?_,fun h=>by cases h⟩
      ·exact (Rd.seven hrS (by omega) _ _ _ _ _ _ _)
      ·simp
      ·exact (grown_seven hgS2 (Nat.le_refl _) _ _ _ _ _ _ _)
end Go.Proofs.YtcmgclckknpecaaGreatDoor
