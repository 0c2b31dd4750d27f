import Derived.Test.YtcmgclckknpecaaGreatDoorKaa
import Derived.Test.YtcmgclckknpecaaGreatDoorKbg
import Derived.Lib.Strings
import Derived.Test.YtcmgclckknpecaaGreatDoorKav
import Derived.Deep.RegionHeld3
import Derived.Test.YtcmgclckknpecaaGreatDoorKaw
import Derived.Test.YtcmgclckknpecaaGreatDoorKba
import Derived.Test.YtcmgclckknpecaaGreatDoorKbi
namespace Go.Proofs.YtcmgclckknpecaaGreatDoor
open Go.RowKit
end Go.Proofs.YtcmgclckknpecaaGreatDoor
namespace Go.Proofs.YtcmgclckknpecaaGreatDoor
open Go.RowKit
end Go.Proofs.YtcmgclckknpecaaGreatDoor
namespace Go.Proofs.YtcmgclckknpecaaGreatDoor
open Go.RowKit
end Go.Proofs.YtcmgclckknpecaaGreatDoor
namespace Go.Proofs.YtcmgclckknpecaaGreatDoor
open Go.RowKit
end Go.Proofs.YtcmgclckknpecaaGreatDoor
namespace Go.Proofs.YtcmgclckknpecaaGreatDoor
open Go.RowKit
end Go.Proofs.YtcmgclckknpecaaGreatDoor
namespace Go.Proofs.YtcmgclckknpecaaGreatDoor
open Go.RowKit
end Go.Proofs.YtcmgclckknpecaaGreatDoor
namespace Go.Proofs.YtcmgclckknpecaaGreatDoor
open Go.RowKit
end Go.Proofs.YtcmgclckknpecaaGreatDoor
namespace Go.Proofs.YtcmgclckknpecaaGreatDoor
open Go.RowKit
end Go.Proofs.YtcmgclckknpecaaGreatDoor
namespace Go.Proofs.YtcmgclckknpecaaGreatDoor
open Go.RowKit
end Go.Proofs.YtcmgclckknpecaaGreatDoor
namespace Go.Proofs.YtcmgclckknpecaaGreatDoor
open Go.RowKit
end Go.Proofs.YtcmgclckknpecaaGreatDoor
namespace Go.Proofs.YtcmgclckknpecaaGreatDoor
open Go.RowKit
structure RdC (cd base:Nat) (LL:List Sp) (v:Value) (n:Nat) (w:World):Prop where
 h:cd=0→∃ xs,w.ownsRow base 207 5 v n xs∧Stq (base+1) LL xs w
structure RdL (base:Nat) (LL:List Sp) (s:ByteArray) (m:Nat) (cut:Bool) (a:Nat) (xs:List Value) (w:World):Prop where
 ex:∃ Ls,Stq base Ls xs w∧Ls++Pl.chC s m cut a=LL
theorem chC_some (s:ByteArray) (m:Nat) (cut:Bool) (a b i:Nat) (o:Bool) (d:Nat) (h:Pl.nm s a (if cut=true then Pl.lates else Pl.starts) 0 0=(some i,b)) (hb:Pl.body s (if cut=true then Pl.kindL i else Pl.kindS i) b=(o,d)) :
  Pl.chC s (m+1) cut a=Pl.spC s ((if cut=true then Pl.lates else Pl.starts)[i]?.getD ⟨#[]⟩) (if cut=true then Pl.kindL i else Pl.kindS i) b :: (if o=true then (if (cut=true∨3≤i)∧d=s.size then [] else if Pl.byteIn s 59 59 d=true then Pl.chC s m (cut || decide (3≤i)) (d+1) else []) else []):=by
 rw [Pl.chC,h]
 simp only [hb]
set_option maxRecDepth 100000 in
set_option maxHeartbeats 4000000 in
theorem read_anyC (s:ByteArray) (w:World) (hm:s.size≤80) (R:(Bool × Nat) × Nat) (HR:Hid (Pl.chn s (s.size+1) false 0 0=R)) (cd at_:Nat) (HV:Hid (verdict R=(cd,at_))) (LL:List Sp) (HLL:Hid (Pl.chC s (s.size+1) false 0=LL)) :
  Calls Tryz.prog 37 #[.string s] w fun e w'=>∃ p n c,e=.returned (.tuple #[.slice p n c,.int .i64 (cd:Int),.int .i64 (at_:Int)])∧Below w.heap.size w w'∧RdC cd w.heap.size LL (.slice p n c) n w':=by
 have hm':¬ (80:Int)<(s.size:Int):=by omega
 have p0:Pn w.heap.size s 0 (-1) (.slice none 0 0) (w.alloc (.cells #[.string s,.int .i64 0,.int .i64 (-1),.slice none 0 0] 198)) :=
  ⟨by simp [go_sem],by simp [go_sem],by simp [go_sem],by simp [go_sem],fun o=>by simp [go_sem],by simp⟩
 have b0:Below w.heap.size w (w.alloc (.cells #[.string s,.int .i64 0,.int .i64 (-1),.slice none 0 0] 198)):=(Below.refl _ w).alloc (Nat.le_refl _) _
 go_enter Tryz.func37,Tryz.ntmps37
 go_wp2
 go_loopw [6,7] (fun cu ag wr=>∃ (g cut ok:Bool) (a c:Nat) (lv:Value) (xs:List Value),ag=.bool g∧cu=.bool cut∧a≤s.size∧Pn w.heap.size s a (badOf ok a) lv wr∧wr.ownsRow w.heap.size 207 5 lv c xs∧lv.ownBlock≠some w.heap.size∧Below w.heap.size w wr ∧
  Hid ((g=true∧ok=true∧c≤a∧∃ m,s.size<a+m∧Pl.chn s m cut a c=R∧RdL (w.heap.size+1) LL s m cut a xs wr)∨(g=false∧ok=false∧R.1=(false,a)))) (fun _ ag wr=>2*(200 - pplc w.heap.size wr)+agN ag)
 case atStart=>exact ⟨true,false,true,0,0,_,[],rfl,rfl,by omega,p0,World.ownsRow_nil _ _ _ _,by simp [Value.ownBlock],b0,.inl ⟨rfl,rfl,by omega,s.size+1,by omega,HR.out,⟨[],Stq.nil _ _,HLL.out⟩⟩⟩
 case round =>
  obtain ⟨g,cut,ok,a,c,lv,xs,rfl,rfl,ha,hp,hL,hLp,hB,HC⟩:=hrel
  clear p0 b0
  rcases HC.out with ⟨rfl,rfl,hca,m,hbm,hl,hRL⟩ | ⟨rfl,rfl,hfin⟩
  ·have hpl0:pplc w.heap.size wr=a:=pplc_eq hp
   cases cut with
   | false =>
    have hKo:=HC.out
    obtain ⟨⟨res,b⟩,hnm⟩:∃ r,Pl.nm s a Pl.starts 0 0=r:=⟨_,rfl⟩
    have hbf:=nm_le s a ha Pl.starts 0 0 res b (by omega) hnm
    have HPW:Hid (∀ W gS,Pn w.heap.size s a (-1) lv W→Nms gS Pl.starts W→Calls Tryz.prog 70 #[.pointer (some ⟨w.heap.size,0,none⟩),.slice (some ⟨gS,0,none⟩) 6 6] W fun e w' =>
      ((∃ i,i<Pl.starts.length∧res=some i∧e=.returned (.int .i64 (i:Int))∧Pn w.heap.size s b (-1) lv w')∨(res=none∧e=.returned (.int .i64 (-1))∧Pn w.heap.size s b (b:Int) lv w'))∧W.grownBy w' (some w.heap.size)):=fun W gS h1 h2 =>
     pword_any w.heap.size gS s a Pl.starts lv W hm ha h1 h2 starts_size (by decide) (by decide) (starts_unique s a) res b hnm
    obtain ⟨m,rfl⟩:∃ m',m=m'+1:=⟨m - 1,by omega⟩
    have hwz:=hB.size
    cases res with
    | none =>
     have hRv:R=((false,b),c):=by rw [← hl];exact chn_none s m false a c b hnm
     obtain ⟨rfl,rfl⟩:cd=2∧at_=b:=by
      have:=HV.out;rw [hRv] at this;simp [verdict] at this;omega
     clear hRv hl hKo HC hnm
     go_wp2_with fail
     refine (starts_any _).mono ?_
     rintro e w1 ⟨rfl,hw⟩
     rw [hw];clear hw w1
     go_wp2_with fail
     refine (HPW.out _ _ (hp.below _) (nms_new Pl.starts wr)).mono ?_
     rintro e w2 ⟨he,hg2⟩
     rcases he with ⟨i,_,h1,_⟩ | ⟨_,rfl,hp2⟩
     ·cases h1
     have hB2:Below w.heap.size w w2:=hB.trans ((((Below.refl w.heap.size wr).alloc hwz _)).trans (below_of_grown hg2 (Nat.le_refl _) (by simp;omega)))
     clear hg2 hp hL hB
     have d2:=hp2.c2
     try rw [badOf_false] at d2
     have hge:(0:Int)≤(at_:Int):=by omega
     go_wp2
     go_quiet (fail)
     go_wp2
     go_ret3
     exact ⟨none,0,0,rfl,below_drewN hB2 _,⟨fun h=>absurd h (by decide)⟩⟩
    | some i =>
     have hpos:=nm_pos s a Pl.starts 0 0 i b starts_pos hnm
     obtain ⟨⟨o,d⟩,hbd⟩:∃ r,Pl.body s (Pl.kindS i) b=r:=⟨_,rfl⟩
     have hdf:=body_fits s (Pl.kindS i) b hbf.2
     rw [hbd] at hdf
     have hch:=chn_some s m false a c b i o d hnm hbd
     rw [hl] at hch
     have HCH:Hid (R=if o=true then (if (false=true∨3≤i)∧d=s.size then ((true,d),c+1) else if Pl.byteIn s 59 59 d=true then Pl.chn s m (false || decide (3≤i)) (d+1) (c+1) else ((false,d),c+1)) else ((false,d),c+1)):=hch
     have HBD:Hid (Pl.body s (Pl.kindS i) b=(o,d)):=hbd
     obtain ⟨Ls,hQ0,hE0⟩:=hRL.ex
     rw [chC_some s m false a b i o d hnm hbd] at hE0
     have HE3:Hid (Ls++(Pl.spC s (Pl.starts[i]?.getD ⟨#[]⟩) (Pl.kindS i) b :: (if o=true then (if (false=true∨3≤i)∧d=s.size then [] else if Pl.byteIn s 59 59 d=true then Pl.chC s m (false || decide (3≤i)) (d+1) else []) else []))=LL):=hE0
     have HQ0:Hid (Stq (w.heap.size+1) Ls xs wr):=hQ0
     clear hE0 hQ0 hRL
     clear hch hbd hl hKo HC hnm
     go_wp2_with fail
     refine (starts_any _).mono ?_
     rintro e w1 ⟨rfl,hw⟩
     rw [hw];clear hw w1
     go_wp2_with fail
     refine (HPW.out _ _ (hp.below _) (nms_new Pl.starts wr)).mono ?_
     rintro e w2 ⟨he,hg2⟩
     rcases he.symm with ⟨h1,_⟩ | ⟨i2,hi2,h1,rfl,hp2⟩
     ·cases h1
     obtain rfl:i=i2:=by simpa using h1
     have hi7:i<6:=hi2
     have hB2:Below w.heap.size w w2:=hB.trans ((((Below.refl w.heap.size wr).alloc hwz _)).trans (below_of_grown hg2 (Nat.le_refl _) (by simp;omega)))
     have hN2:=(nms_new Pl.starts wr).grown hg2 (by simp;intro e;have:=hp.lt;omega)
     have hL2:=ownsRow_grown' (hL.alloc (.cells ((Pl.starts.map Value.string).toArray) 9)) hg2 hLp
     have HQ2:Hid (Stq (w.heap.size+1) Ls xs w2):=(HQ0.out.keep (KqF.below ((Below.refl _ wr).alloc (Nat.le_refl _) (.cells ((Pl.starts.map Value.string).toArray) 9)))).keep (KqF.grown hg2)
     have hgd:Pl.starts[i]?.getD ⟨#[]⟩=Pl.starts[i]'hi2:=by simp [List.getElem?_eq_getElem hi2]
     rw [hgd] at HE3
     clear hgd HQ0
     have hci:=hN2.cells i hi2
     obtain ⟨y,hy⟩:∃ y,Pl.starts[i]'hi2=y:=⟨_,rfl⟩
     have hst:=fun W h1 h2=>stage_startC w.heap.size w.heap.size s b i hi2 lv c xs W (Nat.le_refl _) h1 h2 hLp (by omega) hm hbf.2 o d HBD
     rw [hy] at hci hst HE3
     have HST:Hid (∀ W,Pn w.heap.size s b (-1) lv W→W.ownsRow w.heap.size 207 5 lv c xs→Calls Tryz.prog 72 #[.pointer (some ⟨w.heap.size,0,none⟩),.string y] W fun e w'=>e=.returned (.tuple #[])∧∃ lv' xs',Pn w.heap.size s d (badOf o d) lv' w'∧w'.ownsRow w.heap.size 207 5 lv' (c+1) xs'∧lv'.ownBlock≠some w.heap.size∧Below w.heap.size W w'∧StgC o w.heap.size (Pl.spC s y (Pl.kindS i) b) xs W xs' w'):=hst
     have hcu:=starts_cut i hi2
     rw [hy] at hcu
     obtain ⟨q,hq⟩:∃ q,decide (3≤i)=q:=⟨_,rfl⟩
     have hct:=cutter_any y
     rw [hcu,hq] at hct
     have HCT:Hid (∀ w,Calls Tryz.prog 73 #[.string y] w fun e w'=>e=.returned (.bool q)∧w'=w):=hct
     have HQ:Hid (decide (3≤i)=q):=hq
     clear hcu hct hq
     have hi7':(i:Int)<6:=by omega
     clear hst hy hN2 hg2 hp hB hL
     go_wp2_with fail
     refine (HST.out _ hp2 hL2).mono ?_
     rintro e w3 ⟨rfl,lv3,xs3,hp3,hL3,hLp3,hB3,hSG⟩
     have HS3:Hid (o=true→Stq (w.heap.size+1) (Ls++[Pl.spC s y (Pl.kindS i) b]) xs3 w3):=fun ho=>hSG.h ho Ls HQ2.out
     clear hSG HQ2
     have hBB:=hB2.trans hB3
     clear hp2 hL2 hB2 hB3 hci
     go_wp2_with fail
     refine (HCT.out _).mono ?_
     rintro e w4 ⟨rfl,hw⟩
     rw [hw];clear hw w4
     have e1:=hp3.c1
     have e2:=hp3.c2
     have HTK:Hid (∀ o2 c2,Pl.thenP (o,d) (Pl.sign s 59)=(o2,c2)→Calls Tryz.prog 74 #[.pointer (some ⟨w.heap.size,0,none⟩),.int .u8 59] w3 fun e w'=>e=.returned (.tuple #[])∧Pn w.heap.size s c2 (badOf o2 c2) lv3 w'∧w3.grownBy w' (some w.heap.size)):=fun o2 c2 h =>
      take_st w.heap.size s o d 59 59 rfl lv3 w3 hm hdf.2 hp3 o2 c2 h
     cases q with
     | true =>
      cases o with
      | false =>
       have hRv:R=((false,d),c+1):=by have:=HCH.out;simpa using this
       by_cases hds:d=s.size
       ·have hqe:((d:Int) == (s.size:Int))=true:=by simp;omega
        obtain ⟨rfl,rfl⟩:cd=2∧at_=d:=by
         have:=HV.out;rw [hRv] at this;simp [verdict] at this;omega
        clear HCH hRv hds
        have d2:=hp3.c2
        try rw [badOf_false] at d2
        have hge:(0:Int)≤(at_:Int):=by omega
        go_wp2
        go_quiet (fail)
        go_wp2
        go_ret3
        exact ⟨none,0,0,rfl,below_drewN hBB _,⟨fun h=>absurd h (by decide)⟩⟩
       ·have hqe:((d:Int) == (s.size:Int))=false:=by simp;omega
        go_wp2_with fail
        refine (HTK.out false d (by simp [Pl.thenP])).mono ?_
        rintro e w5 ⟨rfl,hp5,hg5⟩
        have f2:=hp5.c2
        have hL5:=ownsRow_grown' hL3 hg5 hLp3
        have hB5:=hBB.trans (below_of_grown hg5 (Nat.le_refl _) (by have:=hBB.size;omega))
        rw [badOf_false] at f2
        clear e1 e2 hp3 hg5
        have hlt0:decide (((d:Nat):Int)<0)=false:=by simp
        go_wp2
        go_roundw
        case rel=>exact ⟨false,true,false,d,c+1,lv3,xs3,rfl,rfl,hdf.2,hp5,hL5,hLp3,hB5,.inr ⟨rfl,rfl,by rw [hRv]⟩⟩
        case measure=>rw [pplc_eq hp5,hpl0];simp [agN];omega
      | true =>
       by_cases hds:d=s.size
       ·have hRv:R=((true,d),c+1):=by have:=HCH.out;rw [if_pos rfl,if_pos ⟨(.inr (by have:=HQ.out;simpa using this)),hds⟩] at this;exact this
        have HSF:Hid (Stq (w.heap.size+1) LL xs3 w3):=by
         have e:=HE3.out
         rw [if_pos rfl,if_pos ⟨(.inr (by have:=HQ.out;simpa using this)),hds⟩] at e
         rw [← e]
         exact HS3.out rfl
        have hqe:((d:Int) == (s.size:Int))=true:=by simp;omega
        rw [badOf_true] at e2
        obtain ⟨ps,cs,rfl⟩:=slice_of hL3
        have e3:=hp3.c3
        by_cases h8:8<c+1
        ·obtain ⟨rfl,rfl⟩:cd=3∧at_=0:=by
          have:=HV.out;rw [hRv] at this;simp [verdict,h8] at this;omega
         have h8':(8:Int)<(c:Int)+1:=by omega
         clear HCH hRv hds
         go_wp2
         go_ret3
         exact ⟨none,0,0,rfl,hBB,⟨fun h=>absurd h (by decide)⟩⟩
        ·obtain ⟨rfl,rfl⟩:cd=0∧at_=0:=by
          have:=HV.out;rw [hRv] at this;simp [verdict,h8] at this;omega
         have h8':¬ (8:Int)<(c:Int)+1:=by omega
         clear HCH hRv hds
         go_wp2
         go_ret3
         exact ⟨_,_,_,rfl,hBB,⟨fun _=>⟨xs3,hL3,HSF.out⟩⟩⟩
       ·have hqe:((d:Int) == (s.size:Int))=false:=by simp;omega
        by_cases h59:Pl.byteIn s 59 59 d=true
        ·have hRv:=HCH.out
         rw [if_pos rfl,if_neg (fun h=>hds h.2),if_pos h59] at hRv
         have hd59:=(Pl.byteIn_lt h59).1
         have HNX:Hid (Pl.chn s m true (d+1) (c+1)=R):=by
          rw [hRv];show _=_;rw [HQ.out];rfl
         have HN3:Hid (∀ w5,w3.grownBy w5 (some w.heap.size)→RdL (w.heap.size+1) LL s m true (d+1) xs3 w5):=fun w5 hg5=>by
          refine ⟨_,(HS3.out rfl).keep (KqF.grown hg5),?_⟩
          have e:=HE3.out
          rw [if_pos rfl,if_neg (fun h=>hds h.2),if_pos h59] at e
          first | rw [HQ.out] at e | skip
          rw [← e];simp
         clear HS3 HE3
         clear HCH hRv
         go_wp2_with fail
         refine (HTK.out true (d+1) (by simp [Pl.thenP,Pl.sign,h59])).mono ?_
         rintro e w5 ⟨rfl,hp5,hg5⟩
         have f2:=hp5.c2
         have hL5:=ownsRow_grown' hL3 hg5 hLp3
         have hB5:=hBB.trans (below_of_grown hg5 (Nat.le_refl _) (by have:=hBB.size;omega))
         rw [badOf_true] at f2
         have HRN:Hid (RdL (w.heap.size+1) LL s m true (d+1) xs3 w5):=HN3.out _ hg5
         clear e1 e2 hp3 hg5
         go_wp2
         go_roundw
         case rel=>exact ⟨true,true,true,d+1,c+1,lv3,xs3,rfl,rfl,by omega,hp5,hL5,hLp3,hB5,.inl ⟨rfl,rfl,by omega,m,by omega,HNX.out,HRN.out⟩⟩
         case measure=>rw [pplc_eq hp5,hpl0];simp [agN];omega
        ·have hRv:=HCH.out
         rw [if_pos rfl,if_neg (fun h=>hds h.2),if_neg h59] at hRv
         clear HCH
         go_wp2_with fail
         refine (HTK.out false d (by simp [Pl.thenP,Pl.sign,h59])).mono ?_
         rintro e w5 ⟨rfl,hp5,hg5⟩
         have f2:=hp5.c2
         have hL5:=ownsRow_grown' hL3 hg5 hLp3
         have hB5:=hBB.trans (below_of_grown hg5 (Nat.le_refl _) (by have:=hBB.size;omega))
         rw [badOf_false] at f2
         clear e1 e2 hp3 hg5
         have hlt0:decide (((d:Nat):Int)<0)=false:=by simp
         go_wp2
         go_roundw
         case rel=>exact ⟨false,true,false,d,c+1,lv3,xs3,rfl,rfl,hdf.2,hp5,hL5,hLp3,hB5,.inr ⟨rfl,rfl,by rw [hRv]⟩⟩
         case measure=>rw [pplc_eq hp5,hpl0];simp [agN];omega
     | false =>
      cases o with
      | false =>
       have hRv:R=((false,d),c+1):=by have:=HCH.out;simpa using this
       go_wp2_with fail
       refine (HTK.out false d (by simp [Pl.thenP])).mono ?_
       rintro e w5 ⟨rfl,hp5,hg5⟩
       have f2:=hp5.c2
       have hL5:=ownsRow_grown' hL3 hg5 hLp3
       have hB5:=hBB.trans (below_of_grown hg5 (Nat.le_refl _) (by have:=hBB.size;omega))
       rw [badOf_false] at f2
       clear e1 e2 hp3 hg5
       have hlt0:decide (((d:Nat):Int)<0)=false:=by simp
       go_wp2
       go_roundw
       case rel=>exact ⟨false,false,false,d,c+1,lv3,xs3,rfl,rfl,hdf.2,hp5,hL5,hLp3,hB5,.inr ⟨rfl,rfl,by rw [hRv]⟩⟩
       case measure=>rw [pplc_eq hp5,hpl0];simp [agN];omega
      | true =>
       by_cases h59:Pl.byteIn s 59 59 d=true
       ·have hRv:=HCH.out
        rw [if_pos rfl,if_neg (fun h=>by have:=HQ.out;rcases h.1 with h' | h' <;> simp_all),if_pos h59] at hRv
        have hd59:=(Pl.byteIn_lt h59).1
        have HNX:Hid (Pl.chn s m false (d+1) (c+1)=R):=by
         rw [hRv];show _=_;rw [HQ.out];rfl
        have HN3:Hid (∀ w5,w3.grownBy w5 (some w.heap.size)→RdL (w.heap.size+1) LL s m false (d+1) xs3 w5):=fun w5 hg5=>by
         refine ⟨_,(HS3.out rfl).keep (KqF.grown hg5),?_⟩
         have e:=HE3.out
         rw [if_pos rfl,if_neg (fun h=>by have:=HQ.out;rcases h.1 with h' | h' <;> simp_all),if_pos h59] at e
         first | rw [HQ.out] at e | skip
         rw [← e];simp
        clear HS3 HE3
        clear HCH hRv
        go_wp2_with fail
        refine (HTK.out true (d+1) (by simp [Pl.thenP,Pl.sign,h59])).mono ?_
        rintro e w5 ⟨rfl,hp5,hg5⟩
        have f2:=hp5.c2
        have hL5:=ownsRow_grown' hL3 hg5 hLp3
        have hB5:=hBB.trans (below_of_grown hg5 (Nat.le_refl _) (by have:=hBB.size;omega))
        rw [badOf_true] at f2
        have HRN:Hid (RdL (w.heap.size+1) LL s m false (d+1) xs3 w5):=HN3.out _ hg5
        clear e1 e2 hp3 hg5
        go_wp2
        go_roundw
        case rel=>exact ⟨true,false,true,d+1,c+1,lv3,xs3,rfl,rfl,by omega,hp5,hL5,hLp3,hB5,.inl ⟨rfl,rfl,by omega,m,by omega,HNX.out,HRN.out⟩⟩
        case measure=>rw [pplc_eq hp5,hpl0];simp [agN];omega
       ·have hRv:=HCH.out
        rw [if_pos rfl,if_neg (fun h=>by have:=HQ.out;rcases h.1 with h' | h' <;> simp_all),if_neg h59] at hRv
        clear HCH
        go_wp2_with fail
        refine (HTK.out false d (by simp [Pl.thenP,Pl.sign,h59])).mono ?_
        rintro e w5 ⟨rfl,hp5,hg5⟩
        have f2:=hp5.c2
        have hL5:=ownsRow_grown' hL3 hg5 hLp3
        have hB5:=hBB.trans (below_of_grown hg5 (Nat.le_refl _) (by have:=hBB.size;omega))
        rw [badOf_false] at f2
        clear e1 e2 hp3 hg5
        have hlt0:decide (((d:Nat):Int)<0)=false:=by simp
        go_wp2
        go_roundw
        case rel=>exact ⟨false,false,false,d,c+1,lv3,xs3,rfl,rfl,hdf.2,hp5,hL5,hLp3,hB5,.inr ⟨rfl,rfl,by rw [hRv]⟩⟩
        case measure=>rw [pplc_eq hp5,hpl0];simp [agN];omega
   | true =>
    have hKo:=HC.out
    obtain ⟨⟨res,b⟩,hnm⟩:∃ r,Pl.nm s a Pl.lates 0 0=r:=⟨_,rfl⟩
    have hbf:=nm_le s a ha Pl.lates 0 0 res b (by omega) hnm
    have HPW:Hid (∀ W gS,Pn w.heap.size s a (-1) lv W→Nms gS Pl.lates W→Calls Tryz.prog 70 #[.pointer (some ⟨w.heap.size,0,none⟩),.slice (some ⟨gS,0,none⟩) 7 7] W fun e w' =>
      ((∃ i,i<Pl.lates.length∧res=some i∧e=.returned (.int .i64 (i:Int))∧Pn w.heap.size s b (-1) lv w')∨(res=none∧e=.returned (.int .i64 (-1))∧Pn w.heap.size s b (b:Int) lv w'))∧W.grownBy w' (some w.heap.size)):=fun W gS h1 h2 =>
     pword_any w.heap.size gS s a Pl.lates lv W hm ha h1 h2 lates_size (by decide) (by decide) (lates_unique s a) res b hnm
    obtain ⟨m,rfl⟩:∃ m',m=m'+1:=⟨m - 1,by omega⟩
    have hwz:=hB.size
    cases res with
    | none =>
     have hRv:R=((false,b),c):=by rw [← hl];exact chn_none s m true a c b hnm
     obtain ⟨rfl,rfl⟩:cd=2∧at_=b:=by
      have:=HV.out;rw [hRv] at this;simp [verdict] at this;omega
     clear hRv hl hKo HC hnm
     go_wp2_with fail
     refine (lates_any _).mono ?_
     rintro e w1 ⟨rfl,hw⟩
     rw [hw];clear hw w1
     go_wp2_with fail
     refine (HPW.out _ _ (hp.below _) (nms_new Pl.lates wr)).mono ?_
     rintro e w2 ⟨he,hg2⟩
     rcases he with ⟨i,_,h1,_⟩ | ⟨_,rfl,hp2⟩
     ·cases h1
     have hB2:Below w.heap.size w w2:=hB.trans ((((Below.refl w.heap.size wr).alloc hwz _)).trans (below_of_grown hg2 (Nat.le_refl _) (by simp;omega)))
     clear hg2 hp hL hB
     have d2:=hp2.c2
     try rw [badOf_false] at d2
     have hge:(0:Int)≤(at_:Int):=by omega
     go_wp2
     go_quiet (fail)
     go_wp2
     go_ret3
     exact ⟨none,0,0,rfl,below_drewN hB2 _,⟨fun h=>absurd h (by decide)⟩⟩
    | some i =>
     have hpos:=nm_pos s a Pl.lates 0 0 i b lates_pos hnm
     obtain ⟨⟨o,d⟩,hbd⟩:∃ r,Pl.body s (Pl.kindL i) b=r:=⟨_,rfl⟩
     have hdf:=body_fits s (Pl.kindL i) b hbf.2
     rw [hbd] at hdf
     have hch:=chn_some s m true a c b i o d hnm hbd
     rw [hl] at hch
     have HCH:Hid (R=if o=true then (if (true=true∨3≤i)∧d=s.size then ((true,d),c+1) else if Pl.byteIn s 59 59 d=true then Pl.chn s m (true || decide (3≤i)) (d+1) (c+1) else ((false,d),c+1)) else ((false,d),c+1)):=hch
     have HBD:Hid (Pl.body s (Pl.kindL i) b=(o,d)):=hbd
     obtain ⟨Ls,hQ0,hE0⟩:=hRL.ex
     rw [chC_some s m true a b i o d hnm hbd] at hE0
     have HE3:Hid (Ls++(Pl.spC s (Pl.lates[i]?.getD ⟨#[]⟩) (Pl.kindL i) b :: (if o=true then (if (true=true∨3≤i)∧d=s.size then [] else if Pl.byteIn s 59 59 d=true then Pl.chC s m (true || decide (3≤i)) (d+1) else []) else []))=LL):=hE0
     have HQ0:Hid (Stq (w.heap.size+1) Ls xs wr):=hQ0
     clear hE0 hQ0 hRL
     clear hch hbd hl hKo HC hnm
     go_wp2_with fail
     refine (lates_any _).mono ?_
     rintro e w1 ⟨rfl,hw⟩
     rw [hw];clear hw w1
     go_wp2_with fail
     refine (HPW.out _ _ (hp.below _) (nms_new Pl.lates wr)).mono ?_
     rintro e w2 ⟨he,hg2⟩
     rcases he.symm with ⟨h1,_⟩ | ⟨i2,hi2,h1,rfl,hp2⟩
     ·cases h1
     obtain rfl:i=i2:=by simpa using h1
     have hi7:i<7:=hi2
     have hB2:Below w.heap.size w w2:=hB.trans ((((Below.refl w.heap.size wr).alloc hwz _)).trans (below_of_grown hg2 (Nat.le_refl _) (by simp;omega)))
     have hN2:=(nms_new Pl.lates wr).grown hg2 (by simp;intro e;have:=hp.lt;omega)
     have hL2:=ownsRow_grown' (hL.alloc (.cells ((Pl.lates.map Value.string).toArray) 9)) hg2 hLp
     have HQ2:Hid (Stq (w.heap.size+1) Ls xs w2):=(HQ0.out.keep (KqF.below ((Below.refl _ wr).alloc (Nat.le_refl _) (.cells ((Pl.lates.map Value.string).toArray) 9)))).keep (KqF.grown hg2)
     have hgd:Pl.lates[i]?.getD ⟨#[]⟩=Pl.lates[i]'hi2:=by simp [List.getElem?_eq_getElem hi2]
     rw [hgd] at HE3
     clear hgd HQ0
     have hci:=hN2.cells i hi2
     obtain ⟨y,hy⟩:∃ y,Pl.lates[i]'hi2=y:=⟨_,rfl⟩
     have hst:=fun W h1 h2=>stage_lateC w.heap.size w.heap.size s b i hi2 lv c xs W (Nat.le_refl _) h1 h2 hLp (by omega) hm hbf.2 o d HBD
     rw [hy] at hci hst HE3
     have HST:Hid (∀ W,Pn w.heap.size s b (-1) lv W→W.ownsRow w.heap.size 207 5 lv c xs→Calls Tryz.prog 72 #[.pointer (some ⟨w.heap.size,0,none⟩),.string y] W fun e w'=>e=.returned (.tuple #[])∧∃ lv' xs',Pn w.heap.size s d (badOf o d) lv' w'∧w'.ownsRow w.heap.size 207 5 lv' (c+1) xs'∧lv'.ownBlock≠some w.heap.size∧Below w.heap.size W w'∧StgC o w.heap.size (Pl.spC s y (Pl.kindL i) b) xs W xs' w'):=hst
     have hi7':(i:Int)<7:=by omega
     clear hst hy hN2 hg2 hp hB hL
     go_wp2_with fail
     refine (HST.out _ hp2 hL2).mono ?_
     rintro e w3 ⟨rfl,lv3,xs3,hp3,hL3,hLp3,hB3,hSG⟩
     have HS3:Hid (o=true→Stq (w.heap.size+1) (Ls++[Pl.spC s y (Pl.kindL i) b]) xs3 w3):=fun ho=>hSG.h ho Ls HQ2.out
     clear hSG HQ2
     have hBB:=hB2.trans hB3
     clear hp2 hL2 hB2 hB3 hci
     have e1:=hp3.c1
     have e2:=hp3.c2
     have HTK:Hid (∀ o2 c2,Pl.thenP (o,d) (Pl.sign s 59)=(o2,c2)→Calls Tryz.prog 74 #[.pointer (some ⟨w.heap.size,0,none⟩),.int .u8 59] w3 fun e w'=>e=.returned (.tuple #[])∧Pn w.heap.size s c2 (badOf o2 c2) lv3 w'∧w3.grownBy w' (some w.heap.size)):=fun o2 c2 h =>
      take_st w.heap.size s o d 59 59 rfl lv3 w3 hm hdf.2 hp3 o2 c2 h
     cases o with
     | false =>
      have hRv:R=((false,d),c+1):=by have:=HCH.out;simpa using this
      by_cases hds:d=s.size
      ·have hqe:((d:Int) == (s.size:Int))=true:=by simp;omega
       obtain ⟨rfl,rfl⟩:cd=2∧at_=d:=by
        have:=HV.out;rw [hRv] at this;simp [verdict] at this;omega
       clear HCH hRv hds
       have d2:=hp3.c2
       try rw [badOf_false] at d2
       have hge:(0:Int)≤(at_:Int):=by omega
       go_wp2
       go_quiet (fail)
       go_wp2
       go_ret3
       exact ⟨none,0,0,rfl,below_drewN hBB _,⟨fun h=>absurd h (by decide)⟩⟩
      ·have hqe:((d:Int) == (s.size:Int))=false:=by simp;omega
       go_wp2_with fail
       refine (HTK.out false d (by simp [Pl.thenP])).mono ?_
       rintro e w5 ⟨rfl,hp5,hg5⟩
       have f2:=hp5.c2
       have hL5:=ownsRow_grown' hL3 hg5 hLp3
       have hB5:=hBB.trans (below_of_grown hg5 (Nat.le_refl _) (by have:=hBB.size;omega))
       rw [badOf_false] at f2
       clear e1 e2 hp3 hg5
       have hlt0:decide (((d:Nat):Int)<0)=false:=by simp
       go_wp2
       go_roundw
       case rel=>exact ⟨false,true,false,d,c+1,lv3,xs3,rfl,rfl,hdf.2,hp5,hL5,hLp3,hB5,.inr ⟨rfl,rfl,by rw [hRv]⟩⟩
       case measure=>rw [pplc_eq hp5,hpl0];simp [agN];omega
     | true =>
      by_cases hds:d=s.size
      ·have hRv:R=((true,d),c+1):=by have:=HCH.out;rw [if_pos rfl,if_pos ⟨by simp,hds⟩] at this;exact this
       have HSF:Hid (Stq (w.heap.size+1) LL xs3 w3):=by
        have e:=HE3.out
        rw [if_pos rfl,if_pos ⟨by simp,hds⟩] at e
        rw [← e]
        exact HS3.out rfl
       have hqe:((d:Int) == (s.size:Int))=true:=by simp;omega
       rw [badOf_true] at e2
       obtain ⟨ps,cs,rfl⟩:=slice_of hL3
       have e3:=hp3.c3
       by_cases h8:8<c+1
       ·obtain ⟨rfl,rfl⟩:cd=3∧at_=0:=by
         have:=HV.out;rw [hRv] at this;simp [verdict,h8] at this;omega
        have h8':(8:Int)<(c:Int)+1:=by omega
        clear HCH hRv hds
        go_wp2
        go_ret3
        exact ⟨none,0,0,rfl,hBB,⟨fun h=>absurd h (by decide)⟩⟩
       ·obtain ⟨rfl,rfl⟩:cd=0∧at_=0:=by
         have:=HV.out;rw [hRv] at this;simp [verdict,h8] at this;omega
        have h8':¬ (8:Int)<(c:Int)+1:=by omega
        clear HCH hRv hds
        go_wp2
        go_ret3
        exact ⟨_,_,_,rfl,hBB,⟨fun _=>⟨xs3,hL3,HSF.out⟩⟩⟩
      ·have hqe:((d:Int) == (s.size:Int))=false:=by simp;omega
       by_cases h59:Pl.byteIn s 59 59 d=true
       ·have hRv:=HCH.out
        rw [if_pos rfl,if_neg (fun h=>hds h.2),if_pos h59] at hRv
        have hd59:=(Pl.byteIn_lt h59).1
        have HNX:Hid (Pl.chn s m true (d+1) (c+1)=R):=by
         rw [hRv];rfl
        have HN3:Hid (∀ w5,w3.grownBy w5 (some w.heap.size)→RdL (w.heap.size+1) LL s m true (d+1) xs3 w5):=fun w5 hg5=>by
         refine ⟨_,(HS3.out rfl).keep (KqF.grown hg5),?_⟩
         have e:=HE3.out
         rw [if_pos rfl,if_neg (fun h=>hds h.2),if_pos h59] at e
         first | rw [HQ.out] at e | skip
         rw [← e];simp
        clear HS3 HE3
        clear HCH hRv
        go_wp2_with fail
        refine (HTK.out true (d+1) (by simp [Pl.thenP,Pl.sign,h59])).mono ?_
        rintro e w5 ⟨rfl,hp5,hg5⟩
        have f2:=hp5.c2
        have hL5:=ownsRow_grown' hL3 hg5 hLp3
        have hB5:=hBB.trans (below_of_grown hg5 (Nat.le_refl _) (by have:=hBB.size;omega))
        rw [badOf_true] at f2
        have HRN:Hid (RdL (w.heap.size+1) LL s m true (d+1) xs3 w5):=HN3.out _ hg5
        clear e1 e2 hp3 hg5
        go_wp2
        go_roundw
        case rel=>exact ⟨true,true,true,d+1,c+1,lv3,xs3,rfl,rfl,by omega,hp5,hL5,hLp3,hB5,.inl ⟨rfl,rfl,by omega,m,by omega,HNX.out,HRN.out⟩⟩
        case measure=>rw [pplc_eq hp5,hpl0];simp [agN];omega
       ·have hRv:=HCH.out
        rw [if_pos rfl,if_neg (fun h=>hds h.2),if_neg h59] at hRv
        clear HCH
        go_wp2_with fail
        refine (HTK.out false d (by simp [Pl.thenP,Pl.sign,h59])).mono ?_
        rintro e w5 ⟨rfl,hp5,hg5⟩
        have f2:=hp5.c2
        have hL5:=ownsRow_grown' hL3 hg5 hLp3
        have hB5:=hBB.trans (below_of_grown hg5 (Nat.le_refl _) (by have:=hBB.size;omega))
        rw [badOf_false] at f2
        clear e1 e2 hp3 hg5
        have hlt0:decide (((d:Nat):Int)<0)=false:=by simp
        go_wp2
        go_roundw
        case rel=>exact ⟨false,true,false,d,c+1,lv3,xs3,rfl,rfl,hdf.2,hp5,hL5,hLp3,hB5,.inr ⟨rfl,rfl,by rw [hRv]⟩⟩
        case measure=>rw [pplc_eq hp5,hpl0];simp [agN];omega
  ·have hv:cd=2∧at_=a:=by
    have:=HV.out;unfold verdict at this;rw [hfin] at this;simp at this;omega
   obtain ⟨rfl,rfl⟩:=hv
   have d2:=hp.c2
   rw [badOf_false] at d2
   have hge:(0:Int)≤(at_:Int):=by omega
   clear hfin HC
   go_wp2
   go_quiet (fail)
   go_wp2
   go_ret3
   exact ⟨none,0,0,rfl,below_drewN hB _,⟨fun h=>absurd h (by decide)⟩⟩
end Go.Proofs.YtcmgclckknpecaaGreatDoor
