import Derived.Test.YtcmgclckknpecaaGreatDoorKaq
namespace Go.Proofs.YtcmgclckknpecaaGreatDoor
open Go.RowKit
structure TxC (o:Bool) (t x:ByteArray):Prop where
 h:o=true→t=x
structure XsC (o:Bool) (xs ys:List Value):Prop where
 h:o=true→xs=ys
set_option maxHeartbeats 2000000 in
theorem letters_newC (pb:Nat) (s:ByteArray) (a:Nat) (l:Value) (w:World) (hm:s.size≤80) (ha:a≤s.size) (h:Pn pb s a (-1) l w) (o:Bool) (E:Nat) (HW:Hid (Pl.word s a=(o,E))) :
  Calls Tryz.prog 220 #[.pointer (some ⟨pb,0,none⟩)] w fun e w'=>∃ t,e=.returned (.string t)∧TxC o t (s.extract a E)∧Pn pb s E (badOf o E) l w'∧w.grownBy w' (some pb):=by
 have hE:Pl.lets s 8 a=E:=congrArg Prod.snd HW.out
 have ho:o=decide (a<E):=by rw [← hE];exact (congrArg Prod.fst HW.out).symm
 have hfit:=Pl.lets_fits s 8 a ha
 rw [hE] at hfit
 have HE:Hid (Pl.lets s 8 a=E):=hE
 clear hE
 have HO:Hid (o=decide (a<E)):=ho
 clear ho
 have c1:=h.c1
 have hwr:IntKind.i64.wrap ((a:Int)+8)=(a:Int)+8:=by rw [IntKind.wrap_i64];omega
 go_enter Tryz.func220,Tryz.ntmps220
 go_wp2
 clear c1
 go_loopw [8] (fun _ wr=>∃ b m:Nat,a≤b∧b≤s.size∧b+m=a+8∧Hid (Pl.lets s m b=E)∧Pn pb s b (-1) l wr∧w.grownBy wr (some pb)) (fun _ wr=>200 - pplc pb wr)
 case atStart=>exact ⟨a,8,by omega,ha,rfl,HE,h,World.grownBy.refl _ _⟩
 case round =>
  obtain ⟨b,m,hab,hbs,hbm,HL,hr,hg⟩:=hrel
  have c0:=hr.c0
  have c1:=hr.c1
  have c2:=hr.c2
  have fz:=hr.fz
  by_cases hyes:b<a+8∧Pl.byteIn s 97 122 b=true
  ·obtain ⟨hb8,hy⟩:=hyes
   have HL2:Hid (∃ m',m=m'+1∧Pl.lets s m' (b+1)=E):=by
    have hl:=HL.out
    cases m with
    | zero=>omega
    | succ m=>exact ⟨m,rfl,by unfold Pl.lets at hl;rw [if_pos hy] at hl;exact hl⟩
   obtain ⟨hlt,hl1,hl2⟩:=Pl.byteIn_lt hy
   rw [Pl.bt_eq hlt] at hl1 hl2
   have hlt':(b:Int)<(s.size:Int):=by omega
   have hb8':(b:Int)<(a:Int)+8:=by omega
   have hg1:(97:Int)≤(s[b].toNat:Int):=by omega
   have hg2:(s[b].toNat:Int)≤122:=by omega
   clear hy
   go_wp2_with fail
   go_quiet (fail)
   go_wp2
   go_roundw
   case rel =>
    obtain ⟨m',rfl,hl⟩:=HL2.out
    have e1:((b+1:Nat):Int)=(b:Int)+1:=by omega
    refine ⟨b+1,m',by omega,by omega,by omega,hl,?_,grown_trans hg (grown_trans (grown_drewN _ _ _) (grown_set _ _ _ _))⟩
    rw [← e1];exact (hr.drewN _).set1 _
   case measure =>
    have e1:((b+1:Nat):Int)=(b:Int)+1:=by omega
    rw [← e1,pplc_eq ((hr.drewN _).set1 (b+1)),pplc_eq hr];omega
  ·have hbE:b=E:=by
    have hl:=HL.out
    cases m with
    | zero=>exact hl
    | succ m=>unfold Pl.lets at hl;rw [if_neg (fun e=>hyes ⟨by omega,e⟩)] at hl;exact hl
   subst hbE
   have hcase:(¬ b<s.size)∨(b<s.size∧¬ b<a+8)∨(∃ hlt:b<s.size,b<a+8∧s[b].toNat<97)∨(∃ hlt:b<s.size,b<a+8∧97≤s[b].toNat∧122<s[b].toNat):=by
    by_cases q1:b<s.size
    ·by_cases q2:b<a+8
     ·have q3:¬ (97≤s[b].toNat∧s[b].toNat≤122):=fun q=>hyes ⟨q2,Pl.byteIn_mk (by rw [Pl.bt_eq q1];omega)⟩
      by_cases q4:s[b].toNat<97
      ·exact .inr (.inr (.inl ⟨q1,q2,q4⟩))
      ·exact .inr (.inr (.inr ⟨q1,q2,by omega,by omega⟩))
     ·exact .inr (.inl ⟨q1,q2⟩)
    ·exact .inl q1
   clear hyes
   rcases hcase with q | ⟨q1,q2⟩ | ⟨q1,q2,q3⟩ | ⟨q1,q2,q3,q4⟩
   ·have hd:decide ((b:Int)<(s.size:Int))=false:=by simp;omega
    go_wp2_with fail
    go_quiet (fail)
    have hfz:o=decide (a<b):=HO.out
    by_cases hab2:a<b
    ·have hne:((b:Int) == (a:Int))=false:=by simp;omega
     have ho:o=true:=by rw [hfz];simpa using hab2
     subst ho
     clear hfz
     go_wp2
     go_quiet (fail)
     go_wp2
     go_ret
     exact ⟨_,rfl,⟨fun _=>rfl⟩,(hr.drewN _).drewN _,grown_trans hg (grown_trans (grown_drewN _ _ _) (grown_drewN _ _ _))⟩
    ·have hne:((b:Int) == (a:Int))=true:=by simp;omega
     have ho:o=false:=by rw [hfz];simpa using hab2
     subst ho
     clear hfz
     go_wp2_with fail
     refine (fail_new pb s b l _ (hr.drewN _)).mono ?_
     rintro e w2 ⟨rfl,hr2,hg2⟩
     have d0:=hr2.c0
     have d1:=hr2.c1
     clear c0 c1 c2 fz
     go_wp2
     go_quiet (fail)
     go_wp2
     go_ret
     exact ⟨_,rfl,⟨fun h=>absurd h (by simp)⟩,hr2.drewN _,grown_trans hg (grown_trans (grown_drewN _ _ _) (grown_trans hg2 (grown_drewN _ _ _)))⟩
   ·have q1':(b:Int)<(s.size:Int):=by omega
    have hd:decide ((b:Int)<(a:Int)+8)=false:=by simp;omega
    go_wp2_with fail
    go_quiet (fail)
    have hfz:o=decide (a<b):=HO.out
    by_cases hab2:a<b
    ·have hne:((b:Int) == (a:Int))=false:=by simp;omega
     have ho:o=true:=by rw [hfz];simpa using hab2
     subst ho
     clear hfz
     go_wp2
     go_quiet (fail)
     go_wp2
     go_ret
     exact ⟨_,rfl,⟨fun _=>rfl⟩,(hr.drewN _).drewN _,grown_trans hg (grown_trans (grown_drewN _ _ _) (grown_drewN _ _ _))⟩
    ·exfalso;omega
   ·have q1':(b:Int)<(s.size:Int):=by omega
    have q2':(b:Int)<(a:Int)+8:=by omega
    have hd:decide ((97:Int)≤(s[b].toNat:Int))=false:=by simp;omega
    go_wp2_with fail
    go_quiet (fail)
    have hfz:o=decide (a<b):=HO.out
    by_cases hab2:a<b
    ·have hne:((b:Int) == (a:Int))=false:=by simp;omega
     have ho:o=true:=by rw [hfz];simpa using hab2
     subst ho
     clear hfz
     go_wp2
     go_quiet (fail)
     go_wp2
     go_ret
     exact ⟨_,rfl,⟨fun _=>rfl⟩,(hr.drewN _).drewN _,grown_trans hg (grown_trans (grown_drewN _ _ _) (grown_drewN _ _ _))⟩
    ·have hne:((b:Int) == (a:Int))=true:=by simp;omega
     have ho:o=false:=by rw [hfz];simpa using hab2
     subst ho
     clear hfz
     go_wp2_with fail
     refine (fail_new pb s b l _ (hr.drewN _)).mono ?_
     rintro e w2 ⟨rfl,hr2,hg2⟩
     have d0:=hr2.c0
     have d1:=hr2.c1
     clear c0 c1 c2 fz
     go_wp2
     go_quiet (fail)
     go_wp2
     go_ret
     exact ⟨_,rfl,⟨fun h=>absurd h (by simp)⟩,hr2.drewN _,grown_trans hg (grown_trans (grown_drewN _ _ _) (grown_trans hg2 (grown_drewN _ _ _)))⟩
   ·have q1':(b:Int)<(s.size:Int):=by omega
    have q2':(b:Int)<(a:Int)+8:=by omega
    have q3':(97:Int)≤(s[b].toNat:Int):=by omega
    have hd:decide ((s[b].toNat:Int)≤122)=false:=by simp;omega
    go_wp2_with fail
    go_quiet (fail)
    have hfz:o=decide (a<b):=HO.out
    by_cases hab2:a<b
    ·have hne:((b:Int) == (a:Int))=false:=by simp;omega
     have ho:o=true:=by rw [hfz];simpa using hab2
     subst ho
     clear hfz
     go_wp2
     go_quiet (fail)
     go_wp2
     go_ret
     exact ⟨_,rfl,⟨fun _=>rfl⟩,(hr.drewN _).drewN _,grown_trans hg (grown_trans (grown_drewN _ _ _) (grown_drewN _ _ _))⟩
    ·have hne:((b:Int) == (a:Int))=true:=by simp;omega
     have ho:o=false:=by rw [hfz];simpa using hab2
     subst ho
     clear hfz
     go_wp2_with fail
     refine (fail_new pb s b l _ (hr.drewN _)).mono ?_
     rintro e w2 ⟨rfl,hr2,hg2⟩
     have d0:=hr2.c0
     have d1:=hr2.c1
     clear c0 c1 c2 fz
     go_wp2
     go_quiet (fail)
     go_wp2
     go_ret
     exact ⟨_,rfl,⟨fun h=>absurd h (by simp)⟩,hr2.drewN _,grown_trans hg (grown_trans (grown_drewN _ _ _) (grown_trans hg2 (grown_drewN _ _ _)))⟩
theorem letters_stC (pb:Nat) (s:ByteArray) (ok:Bool) (a:Nat) (l:Value) (w:World) (hm:s.size≤80) (ha:a≤s.size) (h:Pn pb s a (badOf ok a) l w) (o:Bool) (b:Nat) (hr:Pl.thenP (ok,a) (Pl.word s)=(o,b)) :
  Calls Tryz.prog 220 #[.pointer (some ⟨pb,0,none⟩)] w fun e w'=>∃ t,e=.returned (.string t)∧TxC o t (s.extract a b)∧Pn pb s b (badOf o b) l w'∧w.grownBy w' (some pb):=by
 cases ok with
 | true=>exact letters_newC pb s a l w hm ha h o b hr
 | false =>
  simp only [Pl.thenP,Bool.false_eq_true,if_false,Prod.mk.injEq] at hr
  obtain ⟨rfl,rfl⟩:=hr
  exact (letters_old pb s a _ (by rw [badOf_false];omega) l w hm ha h).mono fun e w' ⟨t,h1,h2,h3⟩=>⟨t,h1,⟨fun h=>absurd h (by simp)⟩,h2,h3⟩
set_option maxHeartbeats 1000000 in
theorem plist_wordsC (pb sb:Nat) (s:ByteArray) (a:Nat) (l t:Value) (w0 w:World) (hm:s.size≤80) (ha:a≤s.size) (hg0:w0.grownBy w (some pb)) (hpb:pb<w0.heap.size) (hsb:w0.heap.size≤sb) (h:Pn pb s a (-1) l w)
  (hS:Sb sb t (.slice none 0 0) (.slice none 0 0) (.int .i64 0) (.int .i64 0) w) (o:Bool) (d:Nat) (HR:Hid (Pl.lst s (Pl.word s) (s.size+1) a=(o,d))) (L:List ByteArray) (HLF:Hid (Pl.rowC s (Pl.word s) (Pl.wordC s) (s.size+1) a=L)) :
  Calls Tryz.prog 133 #[.pointer (some ⟨pb,0,none⟩),.pointer (some ⟨sb,0,none⟩),.bool false] w fun e w'=>e=.returned (.tuple #[])∧Pn pb s d (badOf o d) l w'∧w0.grownBy w' (some pb)∧∃ p n c,Sb sb t (.slice p n c) (.slice none 0 0) (.int .i64 0) (.int .i64 0) w'∧∃ xs,w'.ownsRow w0.heap.size 9 1 (.slice p n c) n xs∧XsC o xs (L.map .string):=by
 obtain ⟨i0,hi,hz0,hz1,hz2⟩:=info_parts info9
 go_enter Tryz.func133,Tryz.ntmps133
 go_wp2
 go_loopw [6,7,8] (fun ag _ _ wr=>∃ (g ok:Bool) (b n:Nat) (xs:List Value) (v:Value),ag=.bool g∧b≤s.size∧Pn pb s b (badOf ok b) l wr∧w0.grownBy wr (some pb)∧Sb sb t v (.slice none 0 0) (.int .i64 0) (.int .i64 0) wr∧wr.ownsRow w0.heap.size 9 1 v n xs ∧
  Hid ((g=true∧ok=true∧n≤b∧∃ m,s.size<b+m∧Pl.lst s (Pl.word s) m b=(o,d)∧∃ K,xs=K.map .string∧K++Pl.rowC s (Pl.word s) (Pl.wordC s) m b=L)∨(g=false∧Pl.thenP (ok,b) (Pl.sign s 41)=(o,d)∧(ok=true→xs=L.map .string)))) (fun ag _ _ wr=>2*(200 - pplc pb wr)+agN ag)
 case atStart=>exact ⟨true,true,a,0,[],_,rfl,ha,h,hg0,hS,World.ownsRow_nil _ _ _ _,.inl ⟨rfl,rfl,by omega,s.size+1,by omega,HR.out,[],rfl,HLF.out⟩⟩
 case round =>
  obtain ⟨g,ok,b,n,xs,v,rfl,hb,hp,hg,hs,hrow,HC⟩:=hrel
  rcases HC.out with ⟨rfl,rfl,hnb,m,hbm,hl,K,hKx,hKL⟩ | ⟨rfl,hfin,hKL⟩
  ·obtain ⟨m,rfl⟩:∃ m',m=m'+1:=⟨m - 1,by omega⟩
   obtain ⟨⟨o1,c1⟩,hw⟩:∃ r,Pl.word s b=r:=⟨_,rfl⟩
   have hwf:=Pl.word_fits s b hb
   rw [hw] at hwf
   obtain ⟨q,hq⟩:∃ q,(o1 && Pl.byteIn s 44 44 c1)=q:=⟨_,rfl⟩
   have HQ:Hid ((o1 && Pl.byteIn s 44 44 c1)=q):=hq
   have HW:Hid (Pl.thenP (true,b) (Pl.word s)=(o1,c1)):=hw
   have HWL:Hid (Pl.word s b=(o1,c1)):=hw
   have HL:Hid (Pl.lst s (Pl.word s) (m+1) b=(o,d)):=hl
   have hsz:=hg.size
   have HKL:Hid (K++Pl.rowC s (Pl.word s) (Pl.wordC s) (m+1) b=L):=hKL
   have HKX:Hid (xs=K.map .string):=hKx
   clear hKL hKx
   clear hq hw hl HC
   go_wp2_with fail
   refine (letters_stC pb s true b l _ hm hb hp o1 c1 HW.out).mono ?_
   rintro e w1 ⟨t1,rfl,HT1,hp1,hg1⟩
   have hs1:=hs.keep hg1 (by simp;omega)
   have hrow1:=ownsRow_grown hrow hg1 hpb
   obtain ⟨k0,k1,k2,k3,k4,kf⟩:=hs1.cell
   have hz1':=hg1.size
   go_wp2_with (at_builtin;go_must (refine wpList_append_lies _ (by rfl) _ _ 63 (by rfl) w0.heap.size 9 i0 (.string ⟨#[]⟩) 1 16 Tryz.underlying63 hi hz0 hz1 hz2 rfl (by decide) _ n xs (by rfl) (hrow1.alloc _) ⟨w1.heap.size,0,none⟩ 1 1 [.string t1] (by rfl) rfl (World.news_of_block (heap_alloc_new w1 _)) (by simp [Value.oneCell']) (by decide) (by unfold maxLen;omega) (by omega) (by simp;omega) (w1.heap.size+1) (by simp) ?_);intro g2 cap w2 hown hgrow hat hlt2;have hne2:=row_ne_sb hrow1 hs1 (by decide);have hs2:=(hs1.keep (World.grownBy_alloc w1 _ none) (by simp)).keep hgrow hne2;obtain ⟨j0,j1,j2,j3,j4,jf⟩:=hs2.cell)
   have hge2:∀ x,v.ownBlock=some x→w0.heap.size≤x:=fun x e=>(ownBlock_lt hrow1 e).2
   have hp2:=((hp1.grown (World.grownBy_alloc w1 (.cells #[.string t1] 9) none) (by simp)).grown hgrow (by intro e;have:=hge2 _ e;omega)).other (b:=sb) (by omega) 1 (Value.slice (some ⟨g2,0,none⟩) (n+1) cap)
   have hg2:w0.grownBy (w2.setCell ⟨sb,1,none⟩ (Value.slice (some ⟨g2,0,none⟩) (n+1) cap)) (some pb):=grown_set_new (grown_own (grown_alloc (grown_trans hg hg1) _) hgrow hge2) hsb _ _
   have hrow2:=ownsRow_set_other hown (row_ne_sb hown hs2 (by decide)) 1 (Value.slice (some ⟨g2,0,none⟩) (n+1) cap)
   have hs2':=hs2.set1 (Value.slice (some ⟨g2,0,none⟩) (n+1) cap)
   refine (on_st pb s o1 c1 44 44 rfl l _ hm hwf.2 hp2 q HQ.out).mono ?_
   rintro e w3 ⟨rfl,hp3,hg3⟩
   have hs3:=hs2'.keep hg3 (by simp;omega)
   have hrow3:=ownsRow_grown hrow2 hg3 hpb
   have hg03:=grown_trans hg2 hg3
   clear hs2 hs1 hs hs2' hrow2 hrow1 hrow hown hgrow hp2 hp1 hg1 hg3 hg2 j0 j1 j2 j3 j4 jf k0 k1 k2 k3 k4 kf hne2 hat
   cases q with
   | true =>
    obtain ⟨rfl,hcs,hl2⟩:=lst_more s m b o1 c1 _ _ HWL.out HL.out HQ.out
    have HK2:Hid (∃ K2,xs++[.string t1]=K2.map .string∧K2++Pl.rowC s (Pl.word s) (Pl.wordC s) m (c1+1)=L):=by
     have hco:Pl.byteIn s 44 44 c1=true:=by have:=HQ.out;simpa using this
     refine ⟨K++[t1],by rw [HKX.out];simp,?_⟩
     have:=HKL.out
     rw [rowC_more HWL.out hco] at this
     rw [← this,HT1.h rfl]
     have e2:Pl.wordC s b=s.extract b c1:=by unfold Pl.wordC;rw [HWL.out]
     rw [e2];simp
    have hbc:=word_one HWL.out
    have HL2:Hid (Pl.lst s (Pl.word s) m (c1+1)=(o,d)):=hl2
    have f1:=hp3.c1
    have ff:=hp3.fz
    clear hl2
    go_wp2
    go_roundw
    case rel =>
     have e1:((c1+1:Nat):Int)=(c1:Int)+1:=by omega
     refine ⟨true,true,c1+1,n+1,xs++[.string t1],_,rfl,by omega,?_,grown_trans hg03 (grown_set _ _ _ _),hs3.keep (grown_set _ _ _ _) (by simp;omega),ownsRow_grown hrow3 (grown_set _ _ _ _) hpb,.inl ⟨rfl,rfl,by omega,m,by omega,HL2.out,HK2.out⟩⟩
     rw [← e1];exact hp3.set1 _
    case measure =>
     have e1:((c1+1:Nat):Int)=(c1:Int)+1:=by omega
     rw [← e1,pplc_eq (hp3.set1 (c1+1)),pplc_eq hp];simp [agN];omega
   | false =>
    have HK2:Hid (o1=true→xs++[.string t1]=L.map .string):=fun h1=>by
     subst h1
     have hco:¬ Pl.byteIn s 44 44 c1=true:=by have:=HQ.out;simpa using this
     have:=HKL.out
     rw [rowC_last HWL.out hco] at this
     have e2:Pl.wordC s b=s.extract b c1:=by unfold Pl.wordC;rw [HWL.out]
     rw [← this,HKX.out,HT1.h rfl,e2];simp
    have HF:Hid (Pl.thenP (o1,c1) (Pl.sign s 41)=(o,d)):=thenP_sign s m b o1 c1 _ _ HWL.out HL.out HQ.out
    go_wp2
    go_roundw
    case rel=>exact ⟨false,o1,c1,n+1,xs++[.string t1],_,rfl,hwf.2,hp3,hg03,hs3,hrow3,.inr ⟨rfl,HF.out,HK2.out⟩⟩
    case measure=>rw [pplc_eq hp3,pplc_eq hp];simp [agN];omega
  ·have HF:Hid (Pl.thenP (ok,b) (Pl.sign s 41)=(o,d)):=hfin
   have HKL2:Hid (ok=true→xs=L.map .string):=hKL
   clear HC hfin hKL
   go_wp2_with fail
   refine (take_st pb s ok b 41 41 rfl l _ hm hb hp o d HF.out).mono ?_
   rintro e w1 ⟨rfl,hp1,hg1⟩
   go_wp2
   go_end0
   obtain ⟨p',n',c',hv⟩:∃ p' n' c',v=.slice p' n' c':=by
    rcases hrow.2 with ⟨h,_⟩ | ⟨g',cap,_,h,_⟩
    ·exact ⟨_,_,_,h⟩
    ·exact ⟨_,_,_,h⟩
   have hnn:n'=n:=by
    rcases hrow.2 with ⟨h,hn0⟩ | ⟨g',cap,_,h,_⟩
    ·rw [hv] at h;exact (Value.slice.inj h).2.1.trans hn0.symm
    ·rw [hv] at h;exact (Value.slice.inj h).2.1
   subst hnn
   have hok:o=true→ok=true:=fun ho=>by
    have:=HF.out
    rw [ho] at this
    cases ok with
    | true=>rfl
    | false=>simp [Pl.thenP] at this
   refine ⟨rfl,hp1,grown_trans hg hg1,p',n',c',?_,xs,?_,⟨fun ho=>HKL2.out (hok ho)⟩⟩
   ·rw [← hv];exact hs.keep hg1 (by simp;omega)
   ·rw [← hv];exact ownsRow_grown hrow hg1 hpb
set_option maxHeartbeats 1000000 in
theorem plist_pairsC (pb sb:Nat) (s:ByteArray) (a:Nat) (l t:Value) (w0 w:World) (hm:s.size≤80) (ha:a≤s.size) (hg0:w0.grownBy w (some pb)) (hpb:pb<w0.heap.size) (hsb:w0.heap.size≤sb) (h:Pn pb s a (-1) l w)
  (hS:Sb sb t (.slice none 0 0) (.slice none 0 0) (.int .i64 0) (.int .i64 0) w) (o:Bool) (d:Nat) (HR:Hid (Pl.lst s (Pl.pairP s) (s.size+1) a=(o,d))) (L:List (ByteArray × ByteArray)) (HLF:Hid (Pl.rowC s (Pl.pairP s) (Pl.pairC s) (s.size+1) a=L)) :
  Calls Tryz.prog 133 #[.pointer (some ⟨pb,0,none⟩),.pointer (some ⟨sb,0,none⟩),.bool true] w fun e w'=>e=.returned (.tuple #[])∧Pn pb s d (badOf o d) l w'∧w0.grownBy w' (some pb)∧∃ p n c,Sb sb t (.slice none 0 0) (.slice p n c) (.int .i64 0) (.int .i64 0) w'∧∃ xs,w'.ownsRow w0.heap.size 287 2 (.slice p n c) n xs∧XsC o xs (L.flatMap penc):=by
 obtain ⟨i0,hi,hz0,hz1,hz2⟩:=info_parts info106
 go_enter Tryz.func133,Tryz.ntmps133
 go_wp2
 go_loopw [6,7,8] (fun ag _ _ wr=>∃ (g ok:Bool) (b n:Nat) (xs:List Value) (v:Value),ag=.bool g∧b≤s.size∧Pn pb s b (badOf ok b) l wr∧w0.grownBy wr (some pb)∧Sb sb t (.slice none 0 0) v (.int .i64 0) (.int .i64 0) wr∧wr.ownsRow w0.heap.size 287 2 v n xs ∧
  Hid ((g=true∧ok=true∧n≤b∧∃ m,s.size<b+m∧Pl.lst s (Pl.pairP s) m b=(o,d)∧∃ K,xs=K.flatMap penc∧K++Pl.rowC s (Pl.pairP s) (Pl.pairC s) m b=L)∨(g=false∧Pl.thenP (ok,b) (Pl.sign s 41)=(o,d)∧(ok=true→xs=L.flatMap penc)))) (fun ag _ _ wr=>2*(200 - pplc pb wr)+agN ag)
 case atStart=>exact ⟨true,true,a,0,[],_,rfl,ha,h,hg0,hS,World.ownsRow_nil _ _ _ _,.inl ⟨rfl,rfl,by omega,s.size+1,by omega,HR.out,[],rfl,HLF.out⟩⟩
 case round =>
  obtain ⟨g,ok,b,n,xs,v,rfl,hb,hp,hg,hs,hrow,HC⟩:=hrel
  rcases HC.out with ⟨rfl,rfl,hnb,m,hbm,hl,K,hKx,hKL⟩ | ⟨rfl,hfin,hKL⟩
  ·obtain ⟨m,rfl⟩:∃ m',m=m'+1:=⟨m - 1,by omega⟩
   obtain ⟨⟨oa,ca⟩,hwa⟩:∃ r,Pl.word s b=r:=⟨_,rfl⟩
   have hfa:=Pl.word_fits s b hb
   rw [hwa] at hfa
   obtain ⟨⟨ob,cb⟩,hwb⟩:∃ r,Pl.thenP (oa,ca) (Pl.sign s 61)=r:=⟨_,rfl⟩
   have hfb:=Pl.thenP_fits (r:=(oa,ca)) hfa (Pl.sign_fits s 61)
   rw [hwb] at hfb
   obtain ⟨⟨o1,c1⟩,hwc⟩:∃ r,Pl.thenP (ob,cb) (Pl.word s)=r:=⟨_,rfl⟩
   have hwf:=Pl.thenP_fits (r:=(ob,cb)) hfb (Pl.word_fits s)
   rw [hwc] at hwf
   have hw:Pl.pairP s b=(o1,c1):=by rw [← pair_assoc,hwa,hwb,hwc]
   have HWA:Hid (Pl.thenP (true,b) (Pl.word s)=(oa,ca)):=hwa
   have HWB:Hid (Pl.thenP (oa,ca) (Pl.sign s 61)=(ob,cb)):=hwb
   have HWC:Hid (Pl.thenP (ob,cb) (Pl.word s)=(o1,c1)):=hwc
   obtain ⟨q,hq⟩:∃ q,(o1 && Pl.byteIn s 44 44 c1)=q:=⟨_,rfl⟩
   have HQ:Hid ((o1 && Pl.byteIn s 44 44 c1)=q):=hq
   have HWL:Hid (Pl.pairP s b=(o1,c1)):=hw
   have HL:Hid (Pl.lst s (Pl.pairP s) (m+1) b=(o,d)):=hl
   have hsz:=hg.size
   have HKL:Hid (K++Pl.rowC s (Pl.pairP s) (Pl.pairC s) (m+1) b=L):=hKL
   have HKX:Hid (xs=K.flatMap penc):=hKx
   clear hKL hKx
   clear hq hw hl HC hwa hwb hwc
   go_wp2_with fail
   refine (letters_stC pb s true b l _ hm hb hp oa ca HWA.out).mono ?_
   rintro e wA ⟨t1,rfl,HT1,hpA,hgA⟩
   go_wp2_with fail
   refine (take_st pb s oa ca 61 61 rfl l _ hm hfa.2 hpA ob cb HWB.out).mono ?_
   rintro e wB ⟨rfl,hpB,hgB⟩
   go_wp2_with fail
   refine (letters_stC pb s ob cb l _ hm hfb.2 hpB o1 c1 HWC.out).mono ?_
   rintro e w1 ⟨t2,rfl,HT2,hp1,hgC⟩
   have hg1:=grown_trans hgA (grown_trans hgB hgC)
   clear hpA hpB hgA hgB hgC
   have hs1:=hs.keep hg1 (by simp;omega)
   have hrow1:=ownsRow_grown hrow hg1 hpb
   obtain ⟨k0,k1,k2,k3,k4,kf⟩:=hs1.cell
   have hz1':=hg1.size
   go_wp2_with (at_builtin;go_must (refine wpList_append_lies _ (by rfl) _ _ 205 (by rfl) w0.heap.size 287 i0 (.agg #[.string ⟨#[]⟩,.string ⟨#[]⟩]) 2 32 Tryz.underlying205 hi hz0 hz1 hz2 rfl (by decide) _ n xs (by rfl) (hrow1.alloc _) ⟨w1.heap.size,0,none⟩ 1 1 [.string t1,.string t2] (by rfl) rfl (World.news_of_block (heap_alloc_new w1 _)) (by simp [Value.oneCell']) (by decide) (by unfold maxLen;omega) (by omega) (by simp;omega) (w1.heap.size+1) (by simp) ?_);intro g2 cap w2 hown hgrow hat hlt2;have hne2:=row_ne_sb hrow1 hs1 (by decide);have hs2:=(hs1.keep (World.grownBy_alloc w1 _ none) (by simp)).keep hgrow hne2;obtain ⟨j0,j1,j2,j3,j4,jf⟩:=hs2.cell)
   have hge2:∀ x,v.ownBlock=some x→w0.heap.size≤x:=fun x e=>(ownBlock_lt hrow1 e).2
   have hp2:=((hp1.grown (World.grownBy_alloc w1 (.cells #[.string t1,.string t2] 287) none) (by simp)).grown hgrow (by intro e;have:=hge2 _ e;omega)).other (b:=sb) (by omega) 2 (Value.slice (some ⟨g2,0,none⟩) (n+1) cap)
   have hg2:w0.grownBy (w2.setCell ⟨sb,2,none⟩ (Value.slice (some ⟨g2,0,none⟩) (n+1) cap)) (some pb):=grown_set_new (grown_own (grown_alloc (grown_trans hg hg1) _) hgrow hge2) hsb _ _
   have hrow2:=ownsRow_set_other hown (row_ne_sb hown hs2 (by decide)) 2 (Value.slice (some ⟨g2,0,none⟩) (n+1) cap)
   have hs2':=hs2.set2 (Value.slice (some ⟨g2,0,none⟩) (n+1) cap)
   refine (on_st pb s o1 c1 44 44 rfl l _ hm hwf.2 hp2 q HQ.out).mono ?_
   rintro e w3 ⟨rfl,hp3,hg3⟩
   have hs3:=hs2'.keep hg3 (by simp;omega)
   have hrow3:=ownsRow_grown hrow2 hg3 hpb
   have hg03:=grown_trans hg2 hg3
   clear hs2 hs1 hs hs2' hrow2 hrow1 hrow hown hgrow hp2 hp1 hg1 hg3 hg2 j0 j1 j2 j3 j4 jf k0 k1 k2 k3 k4 kf hne2 hat
   cases q with
   | true =>
    obtain ⟨rfl,hcs,hl2⟩:=lst_more s m b o1 c1 _ _ HWL.out HL.out HQ.out
    have HK2:Hid (∃ K2,xs++[.string t1,.string t2]=K2.flatMap penc∧K2++Pl.rowC s (Pl.pairP s) (Pl.pairC s) m (c1+1)=L):=by
     have hco:Pl.byteIn s 44 44 c1=true:=by have:=HQ.out;simpa using this
     have e2:true=true→Pl.pairC s b=(t1,t2):=fun ho=>by
      have hoo:oa=true∧ob=true∧cb=ca+1:=by
       have hC:=HWC.out
       have hB:=HWB.out
       rw [ho] at hC
       cases ob with
       | false=>simp [Pl.thenP] at hC
       | true =>
        cases oa with
        | false=>simp [Pl.thenP] at hB
        | true =>
         refine ⟨rfl,rfl,?_⟩
         simp only [Pl.thenP,if_true,Pl.sign] at hB
         split at hB
         ·exact (Prod.mk.inj hB).2.symm
         ·exact absurd (Prod.mk.inj hB).1 (by simp)
      obtain ⟨rfl,rfl,rfl⟩:=hoo
      have hA:Pl.word s b=(true,ca):=HWA.out
      have hC2:Pl.word s (ca+1)=(true,c1):=HWC.out
      unfold Pl.pairC Pl.wordC
      rw [hA]
      simp only
      rw [hC2,HT1.h rfl,HT2.h ho]
     refine ⟨K++[(t1,t2)],by rw [HKX.out];simp [penc],?_⟩
     have:=HKL.out
     rw [rowC_more HWL.out hco] at this
     rw [← this,e2 rfl]
     simp
    have hbc:=pair_one hb HWL.out
    have HL2:Hid (Pl.lst s (Pl.pairP s) m (c1+1)=(o,d)):=hl2
    have f1:=hp3.c1
    have ff:=hp3.fz
    clear hl2
    go_wp2
    go_roundw
    case rel =>
     have e1:((c1+1:Nat):Int)=(c1:Int)+1:=by omega
     refine ⟨true,true,c1+1,n+1,xs++[.string t1,.string t2],_,rfl,by omega,?_,grown_trans hg03 (grown_set _ _ _ _),hs3.keep (grown_set _ _ _ _) (by simp;omega),ownsRow_grown hrow3 (grown_set _ _ _ _) hpb,.inl ⟨rfl,rfl,by omega,m,by omega,HL2.out,HK2.out⟩⟩
     rw [← e1];exact hp3.set1 _
    case measure =>
     have e1:((c1+1:Nat):Int)=(c1:Int)+1:=by omega
     rw [← e1,pplc_eq (hp3.set1 (c1+1)),pplc_eq hp];simp [agN];omega
   | false =>
    have HK2:Hid (o1=true→xs++[.string t1,.string t2]=L.flatMap penc):=fun h1=>by
     have e2:o1=true→Pl.pairC s b=(t1,t2):=fun ho=>by
      have hoo:oa=true∧ob=true∧cb=ca+1:=by
       have hC:=HWC.out
       have hB:=HWB.out
       rw [ho] at hC
       cases ob with
       | false=>simp [Pl.thenP] at hC
       | true =>
        cases oa with
        | false=>simp [Pl.thenP] at hB
        | true =>
         refine ⟨rfl,rfl,?_⟩
         simp only [Pl.thenP,if_true,Pl.sign] at hB
         split at hB
         ·exact (Prod.mk.inj hB).2.symm
         ·exact absurd (Prod.mk.inj hB).1 (by simp)
      obtain ⟨rfl,rfl,rfl⟩:=hoo
      have hA:Pl.word s b=(true,ca):=HWA.out
      have hC2:Pl.word s (ca+1)=(o1,c1):=HWC.out
      unfold Pl.pairC Pl.wordC
      rw [hA]
      simp only
      rw [hC2,HT1.h rfl,HT2.h ho]
     have e3:=e2 h1
     subst h1
     have hco:¬ Pl.byteIn s 44 44 c1=true:=by have:=HQ.out;simpa using this
     have:=HKL.out
     rw [rowC_last HWL.out hco] at this
     rw [← this,HKX.out,e3];simp [penc]
    have HF:Hid (Pl.thenP (o1,c1) (Pl.sign s 41)=(o,d)):=thenP_sign s m b o1 c1 _ _ HWL.out HL.out HQ.out
    go_wp2
    go_roundw
    case rel=>exact ⟨false,o1,c1,n+1,xs++[.string t1,.string t2],_,rfl,hwf.2,hp3,hg03,hs3,hrow3,.inr ⟨rfl,HF.out,HK2.out⟩⟩
    case measure=>rw [pplc_eq hp3,pplc_eq hp];simp [agN];omega
  ·have HF:Hid (Pl.thenP (ok,b) (Pl.sign s 41)=(o,d)):=hfin
   have HKL2:Hid (ok=true→xs=L.flatMap penc):=hKL
   clear HC hfin hKL
   go_wp2_with fail
   refine (take_st pb s ok b 41 41 rfl l _ hm hb hp o d HF.out).mono ?_
   rintro e w1 ⟨rfl,hp1,hg1⟩
   go_wp2
   go_end0
   obtain ⟨p',n',c',hv⟩:∃ p' n' c',v=.slice p' n' c':=by
    rcases hrow.2 with ⟨h,_⟩ | ⟨g',cap,_,h,_⟩
    ·exact ⟨_,_,_,h⟩
    ·exact ⟨_,_,_,h⟩
   have hnn:n'=n:=by
    rcases hrow.2 with ⟨h,hn0⟩ | ⟨g',cap,_,h,_⟩
    ·rw [hv] at h;exact (Value.slice.inj h).2.1.trans hn0.symm
    ·rw [hv] at h;exact (Value.slice.inj h).2.1
   subst hnn
   have hok:o=true→ok=true:=fun ho=>by
    have:=HF.out
    rw [ho] at this
    cases ok with
    | true=>rfl
    | false=>simp [Pl.thenP] at this
   refine ⟨rfl,hp1,grown_trans hg hg1,p',n',c',?_,xs,?_,⟨fun ho=>HKL2.out (hok ho)⟩⟩
   ·rw [← hv];exact hs.keep hg1 (by simp;omega)
   ·rw [← hv];exact ownsRow_grown hrow hg1 hpb
end Go.Proofs.YtcmgclckknpecaaGreatDoor
