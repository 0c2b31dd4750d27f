import Derived.Test.YtcmgclckknpecaaGreatDoorKaz
import Derived.Test.YtcmgclckknpecaaGreatDoorKas
namespace Go.Proofs.YtcmgclckknpecaaGreatDoor
open Go.RowKit
def Pl.pcL (cs:List Nat) (hi n:Nat):List (List Nat):=(List.range' n (min hi cs.length+1 - n)).map fun n=>cs.take n
theorem Pl.pcL_cons (cs:List Nat) (hi n:Nat) (h:n≤hi∧n≤cs.length):Pl.pcL cs hi n=cs.take n :: Pl.pcL cs hi (n+1):=by
 unfold Pl.pcL
 rw [show min hi cs.length+1 - n=(min hi cs.length+1 - (n+1))+1 by omega,List.range'_succ,List.map_cons]
theorem Pl.pcL_nil (cs:List Nat) (hi n:Nat) (h:¬ (n≤hi∧n≤cs.length)):Pl.pcL cs hi n=[]:=by
 unfold Pl.pcL
 rw [show min hi cs.length+1 - n=0 by omega];rfl
theorem Pl.edF_pcL (cs:List Nat) (lo hi:Nat):∀ m k,cs.length≤k+m→Pl.edF cs lo hi m k=Pl.pcL cs hi (max lo (k+1))
 | 0,k,h=>by rw [Pl.edF,Pl.pcL_nil _ _ _ (by omega)]
 | m+1,k,h=>by
  rw [Pl.edF]
  by_cases hc:k<cs.length∧k+1≤hi
  ·rw [if_pos hc,Pl.edF_pcL cs lo hi m (k+1) (by omega)]
   by_cases hl:lo≤k+1
   ·rw [if_pos hl,show max lo (k+1)=k+1 by omega,show max lo (k+1+1)=k+1+1 by omega,Pl.pcL_cons cs hi (k+1) (by omega)];rfl
   ·rw [if_neg hl,show max lo (k+1)=lo by omega,show max lo (k+1+1)=lo by omega];rfl
  ·rw [if_neg hc,Pl.pcL_nil _ _ _ (by omega)]
theorem Pl.edg_pcL (cs:List Nat) (lo hi:Nat) (h:1≤lo):Pl.edg lo hi cs=Pl.pcL cs hi lo:=by
 unfold Pl.edg
 rw [Pl.edF_pcL cs lo hi _ 0 (by omega),show max lo (0+1)=lo by omega]
def Pl.pcR (gram:Bool) (cs:List Nat) (lo hi:Nat):Nat→Nat→List (List Nat)
 | 0,_=>[]
 | m+1,q=>if q<cs.length∧(q=0∨gram=true) then Pl.pcL (cs.drop q) hi lo++Pl.pcR gram cs lo hi m (q+1) else []
theorem Pl.pcR_gram (cs:List Nat) (lo hi:Nat) (h:1≤lo):∀ m q,Pl.pcR true cs lo hi m q=Pl.grF cs lo hi m q
 | 0,_=>rfl
 | m+1,q=>by
  rw [Pl.pcR,Pl.grF]
  by_cases hq:q<cs.length
  ·rw [if_pos ⟨hq,.inr rfl⟩,if_pos hq,Pl.edg_pcL _ _ _ h,Pl.pcR_gram cs lo hi h m]
  ·rw [if_neg (fun h=>hq h.1),if_neg hq]
theorem Pl.pcR_no (gram:Bool) (cs:List Nat) (lo hi m q:Nat) (h:¬ (q<cs.length∧(q=0∨gram=true))):Pl.pcR gram cs lo hi m q=[]:=by
 cases m with
 | zero=>rfl
 | succ m=>rw [Pl.pcR,if_neg h]
theorem Pl.pcR_edge (cs:List Nat) (lo hi:Nat) (h:1≤lo):Pl.pcR false cs lo hi cs.length 0=Pl.edg lo hi cs:=by
 rw [Pl.edg_pcL _ _ _ h]
 cases hl:cs.length with
 | zero=>rw [Pl.pcR,Pl.pcL_nil _ _ _ (by omega)]
 | succ m=>rw [Pl.pcR,if_pos ⟨by omega,.inl rfl⟩,Pl.pcR_no _ _ _ _ _ _ (by simp),List.append_nil,List.drop_zero]
theorem Pl.drop_snoc (cs:List Nat) (q j:Nat) (h:q+j<cs.length):(cs.drop q).take (j+1)=(cs.drop q).take j++[cs[q+j]]:=by
 rw [List.take_add_one,List.getElem?_drop,List.getElem?_eq_getElem h];rfl
set_option maxRecDepth 100000 in
set_option maxHeartbeats 8000000 in
theorem rpieces_any (gram:Bool) (nm:ByteArray) (hE:(nm.toList == [103,114,97,109])=gram) (cs:List Nat) (sa:Option Addr) (sc sg pos F T A B:Nat) (wa pa:Option Addr) (wn wc pn pc:Nat) (w:World)
  (hC:Co sg cs w) (hsa:0<cs.length→sa=some ⟨sg,0,none⟩) (hsg:0<cs.length→sg<w.heap.size) (hA:1≤A) (hA9:A≤9) (hB9:B≤9) (hlen:cs.length≤300000000) :
  Calls Tryz.prog 144 #[.agg #[.slice sa cs.length sc,.int .i64 (pos:Int),.int .i64 (F:Int),.int .i64 (T:Int)],.agg #[.string nm,.slice wa wn wc,.slice pa pn pc,.int .i64 (A:Int),.int .i64 (B:Int)]] w fun e w' =>
   ∃ v,e=.returned v∧Tkr w.heap.size v ((Pl.pcR gram cs A B cs.length 0).map fun u=>(u,pos,F,T)) w'∧Below w.heap.size w w':=by
 obtain ⟨i0,hi,hz0,hz1,hz2⟩:=info_parts info3
 obtain ⟨fin,hfin⟩:∃ fin,Pl.pcR gram cs A B cs.length 0=fin:=⟨_,rfl⟩
 rw [hfin]
 have HF:Hid (([]:List (List Nat))++Pl.pcR gram cs A B cs.length 0=fin):=hfin
 clear hfin
 have HE:Hid ((nm.toList == [103,114,97,109])=gram):=hE
 clear hE
 have hT0:Blk w.heap.size 128 #[.slice sa cs.length sc,.int .i64 (pos:Int),.int .i64 (F:Int),.int .i64 (T:Int)] ((w.alloc (.cells #[.slice sa cs.length sc,.int .i64 (pos:Int),.int .i64 (F:Int),.int .i64 (T:Int)] 128)).alloc (.cells #[.string nm,.slice wa wn wc,.slice pa pn pc,.int .i64 (A:Int),.int .i64 (B:Int)] 207)):=by
  have h:Blk w.heap.size 128 #[.slice sa cs.length sc,.int .i64 (pos:Int),.int .i64 (F:Int),.int .i64 (T:Int)] (w.alloc (.cells #[.slice sa cs.length sc,.int .i64 (pos:Int),.int .i64 (F:Int),.int .i64 (T:Int)] 128)):=heap_alloc_new w _
  exact h.alloc _
 have hS0:Blk (w.heap.size+1) 207 #[.string nm,.slice wa wn wc,.slice pa pn pc,.int .i64 (A:Int),.int .i64 (B:Int)] ((w.alloc (.cells #[.slice sa cs.length sc,.int .i64 (pos:Int),.int .i64 (F:Int),.int .i64 (T:Int)] 128)).alloc (.cells #[.string nm,.slice wa wn wc,.slice pa pn pc,.int .i64 (A:Int),.int .i64 (B:Int)] 207)):=by
  have h:=heap_alloc_new (w.alloc (.cells #[.slice sa cs.length sc,.int .i64 (pos:Int),.int .i64 (F:Int),.int .i64 (T:Int)] 128)) (.cells #[.string nm,.slice wa wn wc,.slice pa pn pc,.int .i64 (A:Int),.int .i64 (B:Int)] 207)
  rw [World.size_alloc] at h
  exact h
 have hB0:Below w.heap.size w ((w.alloc (.cells #[.slice sa cs.length sc,.int .i64 (pos:Int),.int .i64 (F:Int),.int .i64 (T:Int)] 128)).alloc (.cells #[.string nm,.slice wa wn wc,.slice pa pn pc,.int .i64 (A:Int),.int .i64 (B:Int)] 207)):=((Below.refl _ w).alloc (Nat.le_refl _) _).alloc (by simp) _
 go_enter Tryz.func144,Tryz.ntmps144
 go_wp2_with fail
 go_loopw [5,6] (fun ov iv wr=>∃ (q m:Nat) (pre:List (List Nat)),iv=.int .i64 (q:Int)∧q≤cs.length∧cs.length≤q+m∧pre.length≤9*q∧Hid (pre++Pl.pcR gram cs A B m q=fin)∧Tkr (w.heap.size+2) ov (pre.map fun u=>(u,pos,F,T)) wr∧Blk w.heap.size 128 #[.slice sa cs.length sc,.int .i64 (pos:Int),.int .i64 (F:Int),.int .i64 (T:Int)] wr∧Blk (w.heap.size+1) 207 #[.string nm,.slice wa wn wc,.slice pa pn pc,.int .i64 (A:Int),.int .i64 (B:Int)] wr∧Below w.heap.size w wr) (fun _ iv _=>cs.length - (intOf iv).toNat)
 case atStart=>exact ⟨0,cs.length,[],rfl,by omega,by omega,by simp,HF,Tkr.nil _ _,hT0,hS0,hB0⟩
 case round =>
  obtain ⟨q,m,pre0,rfl,hq,hqm,hpl0,HX,hTk0,hT,hS,hB⟩:=hrel
  clear hT0 hS0 hB0
  obtain ⟨w0,hw0⟩:∃ w0,w0=wr:=⟨_,rfl⟩
  subst hw0
  obtain ⟨⟨t0,t1,t2,t3⟩,tf⟩:=hT.four
  obtain ⟨s0,s1,s2,s3,s4,sf⟩:=hS.five
  by_cases hc:q<cs.length∧(q=0∨gram=true)
  ·obtain ⟨hql,hc2⟩:=hc
   obtain rfl:=hsa (by omega)
   have hsg':=hsg (by omega)
   have hqI:(q:Int)<(cs.length:Int):=by omega
   obtain ⟨m',rfl⟩:∃ m',m=m'+1:=⟨m - 1,by omega⟩
   have hX:=HX.out
   rw [Pl.pcR,if_pos ⟨hql,hc2⟩] at hX
   obtain ⟨tl,htl⟩:∃ tl,Pl.pcR gram cs A B m' (q+1)=tl:=⟨_,rfl⟩
   have HTL:Hid (Pl.pcR gram cs A B m' (q+1)=tl):=htl
   rw [htl] at hX
   have HN:Hid (pre0++(Pl.pcL (cs.drop q) B A++tl)=fin):=hX
   have hdl:(cs.drop q).length=cs.length - q:=List.length_drop
   clear hX htl HX
   have hg01:(q=0)∨(¬ q=0∧gram=true):=by by_cases h:q=0;exact .inl h;exact .inr ⟨h,hc2.resolve_left h⟩
   clear hc2
   have hcase:(((q:Int) == 0)=true)∨(((q:Int) == 0)=false∧gram=true):=by
    rcases hg01 with h | ⟨h,hg⟩
    ·exact .inl (by simp;omega)
    ·exact .inr ⟨by simp;omega,hg⟩
   rcases hg01 with hq0 | ⟨hq0,hgr⟩
   ·subst hq0
    clear hdl
    rw [List.drop_zero] at HN
    clear hcase
    go_wp2_with fail
    go_loopw [5,7] (fun ov nv wr=>∃ (n:Nat) (pre:List (List Nat)),nv=.int .i64 (n:Int)∧A≤n∧n≤10∧pre.length+A≤n∧Hid (pre++(Pl.pcL cs B n++tl)=fin)∧Tkr (w.heap.size+2) ov (pre.map fun u=>(u,pos,F,T)) wr∧Blk w.heap.size 128 #[.slice (some ⟨sg,0,none⟩) cs.length sc,.int .i64 (pos:Int),.int .i64 (F:Int),.int .i64 (T:Int)] wr∧Blk (w.heap.size+1) 207 #[.string nm,.slice wa wn wc,.slice pa pn pc,.int .i64 (A:Int),.int .i64 (B:Int)] wr∧Below w.heap.size w wr) (fun _ nv _=>10 - (intOf nv).toNat)
    case atStart=>exact ⟨A,pre0,rfl,by omega,by omega,by omega,HN,hTk0,hT,hS,hB⟩
    case round =>
     clear t0 t1 t2 t3 tf s0 s1 s2 s3 s4 sf hT hS hB hTk0 HN
     obtain ⟨n,pre,rfl,hAn,hn10,hpl,HN,hTk,hT,hS,hB⟩:=hrel
     obtain ⟨w1,hw1⟩:∃ w1,w1=wr:=⟨_,rfl⟩
     subst hw1
     have hs1:=hB.size
     have hSl:=hS.lt
     obtain ⟨⟨t0,t1,t2,t3⟩,tf⟩:=hT.four
     obtain ⟨s0,s1,s2,s3,s4,sf⟩:=hS.five
     by_cases hcn:n≤B∧n≤cs.length
     ·obtain ⟨hnB,hqn⟩:=hcn
      have hnBI:(n:Int)≤(B:Int):=by omega
      have hqnI:(n:Int)≤(cs.length:Int):=by omega
      have hN:=HN.out
      rw [Pl.pcL_cons _ _ _ ⟨hnB,by omega⟩] at hN
      have HN2:Hid ((pre++[cs.take n])++(Pl.pcL cs B (n+1)++tl)=fin):=by show _=_;rw [← hN];simp
      clear hN HN
      have hU0:Blk w1.heap.size 128 #[.slice none 0 0,.int .i64 (pos:Int),.int .i64 (F:Int),.int .i64 (T:Int)] (w1.alloc (.cells #[.slice none 0 0,.int .i64 (pos:Int),.int .i64 (F:Int),.int .i64 (T:Int)] 128)):=heap_alloc_new w1 _
      have hBU:Below w1.heap.size w1 (w1.alloc (.cells #[.slice none 0 0,.int .i64 (pos:Int),.int .i64 (F:Int),.int .i64 (T:Int)] 128)):=(Below.refl _ w1).alloc (Nat.le_refl _) _
      go_wp2_with fail
      go_loopw [9] (fun kv wr=>∃ (kk:Nat) (uv:Value),kv=.int .i64 (kk:Int)∧0≤kk∧kk≤n∧Blk w1.heap.size 128 #[uv,.int .i64 (pos:Int),.int .i64 (F:Int),.int .i64 (T:Int)] wr∧wr.ownsRow w1.heap.size 3 1 uv (kk) ((cs.take (kk)).map iv)∧Below w1.heap.size w1 wr) (fun kv _=>n - (intOf kv).toNat)
      case atStart=>exact ⟨0,.slice none 0 0,rfl,by omega,by omega,hU0,by exact World.ownsRow_nil _ _ _ _,hBU⟩
      case round =>
       clear hU0 hBU
       obtain ⟨kk,uv,rfl,hk1,hk2,hU,hrow,h2⟩:=hrel
       obtain ⟨w2,hw2⟩:∃ w2,w2=wr:=⟨_,rfl⟩
       subst hw2
       have hBw2:Below w.heap.size w w2:=hB.trans (h2.mono hs1)
       have hs2:=h2.size
       have hUl:=hU.lt
       have hT2:=hT.below h2
       have hS2:=hS.below h2
       obtain ⟨⟨a0,a1,a2,a3⟩,af⟩:=hT2.four
       obtain ⟨⟨u0,u1,u2,u3⟩,uf⟩:=hU.four
       clear t0 t1 t2 t3 tf s0 s1 s2 s3 s4 sf
       by_cases hkl:kk<n
       ·have hkI:(kk:Int)<(n:Int):=by omega
        have hkcI:(kk:Int)<(cs.length:Int):=by omega
        have c0:=(hC.below hBw2 hsg).c kk (by omega)
        obtain ⟨d,hd⟩:∃ d,cs[kk]'(by omega)=d:=⟨_,rfl⟩
        have HD:Hid (cs.take (kk+1)=cs.take (kk)++[d]):=by
         show _=_
         rw [← hd];exact List.take_succ_eq_append_getElem _
        rw [hd] at c0
        clear hd
        have hneU:uv.ownBlock≠some w1.heap.size:=row_ne_blk hrow hU (by decide)
        have HK:Hid (∀ o w3,((w2.alloc o).drew).grownBy w3 uv.ownBlock→Blk w1.heap.size 128 #[uv,.int .i64 (pos:Int),.int .i64 (F:Int),.int .i64 (T:Int)] w3):=fun o w3 hgw =>
         Blk.keep (show Blk w1.heap.size 128 #[uv,.int .i64 (pos:Int),.int .i64 (F:Int),.int .i64 (T:Int)] ((w2.alloc o).drew) from hU.alloc o) hgw hneU
        have hkq9:kk≤10:=by omega
        go_wp2_with fail
        go_region_law
         ((refine step_append_lies _ (by rfl) _ _ _ (by rfl) w1.heap.size 3 i0 _ 1 8 Tryz.underlying55 hi hz0 hz1 hz2 rfl (by omega) uv (kk) ((cs.take (kk)).map iv) (by rfl) ((hrow.alloc _).drew) ⟨w2.heap.size,0,none⟩ 1 1 [.int .i64 (d:Int)] (by rfl) (by rfl) (World.news_of_block (cs:=#[.int .i64 (d:Int)]) (t:=3) (fr:=(0,0)) (heap_alloc_new w2 _)) (by simp [Value.oneCell']) (by omega) (by unfold maxLen;omega) (by omega) (by simp;omega) (w2.heap.size+1) (by simp) ?_;intro gn capn w3 hown1 hgrow hat hlt1;have hb3:=HK.out _ _ hgrow;obtain ⟨⟨j0,j1,j2,j3⟩,jf⟩:=hb3.four;have jf0:=jf 0;clear jf))
        all_goals
         go_wp2
         have hB3:Below w1.heap.size w1 w3:=Below.grown ((h2.alloc hs2 _).drew) hgrow (by simp;omega) fun j ej=>(ownBlock_lt hrow ej).2
         refine ⟨⟨kk+1,_,by go_num,by omega,by omega,hb3.f0 _,?_,hB3.setCell (p:=⟨w1.heap.size,0,none⟩) (Nat.le_refl _) _⟩,by simp [intOf];omega⟩
         rw [HD.out,List.map_append]
         exact ownsRow_set_other hown1 (row_ne_blk hown1 hb3 (by decide)) 0 _
       ·have hkI:¬ (kk:Int)<(n:Int):=by omega
        obtain rfl:n=kk:=by omega
        skip
        obtain ⟨us,hus,hrow1,hco⟩:=hTk.r
        have hcu:=(CoR.of_own hrow).1
        obtain ⟨ua,uc,ug,rfl,_⟩:=hcu.co
        obtain ⟨un,hun⟩:∃ k,(cs.take n).length=k:=⟨_,rfl⟩
        rw [hun] at hcu hrow hU u0
        have hrow2:=ownsRow_below hrow1 h2
        have hul:us.length=pre.length:=by have:=congrArg List.length hus;simpa using this
        obtain ⟨j0,hi,hz0,hz1,hz2⟩:=info_parts info128
        clear hTk
        go_wp2_with (at_builtin;go_must (refine wpList_append_lies _ (by rfl) _ _ 28 (by rfl) (w.heap.size+2) 128 j0 (.agg #[.slice none 0 0,.int .i64 0,.int .i64 0,.int .i64 0]) 4 48 Tryz.underlying28 hi hz0 hz1 hz2 rfl (by decide) _ us.length (us.flatMap enc4) (by rfl) (hrow2.alloc _) ⟨w2.heap.size,0,none⟩ 1 1 (enc4 (.slice ua un uc,cs.take n,pos,F,T)) (by rfl) rfl (World.news_of_block (heap_alloc_new w2 _)) (by simp [enc4,Value.oneCell']) (by decide) (by unfold maxLen;omega) (by omega) (by simp;omega) (w2.heap.size+1) (by simp) ?_);intro gn capn w3 hown1 hgrow hat hlt1;have hB3:Below w.heap.size w w3:=Below.grown (hBw2.alloc (by omega) _) hgrow (by simp;omega) (fun j ej=>by have:=(ownBlock_lt hrow2 ej).2;omega);have hK3:Kp w2 w3:=(Kp.alloc w2 _).trans (Kp.of_grown (hrow2.alloc _) (by decide) hgrow);have hT3:=(hT2.alloc _).keep hgrow (fun e=>by have:=(ownBlock_lt hrow2 e).2;omega);have hS3:=(hS2.alloc _).keep hgrow (fun e=>by have:=(ownBlock_lt hrow2 e).2;omega))
        refine ⟨⟨n+1,pre++[cs.take n],by go_num,by omega,by omega,by simp;omega,HN2,⟨us++[(.slice ua un uc,cs.take n,pos,F,T)],by simp [hus],?_,?_⟩,hT3,hS3,hB3⟩,by simp [intOf];omega⟩
        ·rw [hul] at hown1
         rw [enc4_snoc,List.length_append,hul]
         exact hown1
        ·intro u hu
         rcases List.mem_append.1 hu with hu | hu
         ·exact (hco u hu).kp ((Kp.of_below h2 (Nat.le_refl _)).trans hK3)
         ·obtain rfl:=List.mem_singleton.1 hu
          exact hcu.kp hK3
     ·have HN2:Hid (pre++tl=fin):=by
       have:=HN.out;rw [Pl.pcL_nil _ _ _ (by omega),List.nil_append] at this;exact this
      have hlq:pre.length≤9:=by omega
      by_cases hnB:n≤B
      ·have hnBI:(n:Int)≤(B:Int):=by omega
       have hqnI:¬ (n:Int)≤(cs.length:Int):=by omega
       go_wp2_with fail
       exact ⟨⟨1,m',pre,by go_num,by omega,by omega,hlq,by rw [HTL.out];exact HN2,hTk,hT,hS,hB⟩,by simp [intOf];omega⟩
      ·have hnBI:¬ (n:Int)≤(B:Int):=by omega
       go_wp2_with fail
       exact ⟨⟨1,m',pre,by go_num,by omega,by omega,hlq,by rw [HTL.out];exact HN2,hTk,hT,hS,hB⟩,by simp [intOf];omega⟩
   ·have hq0I:¬ (q:Int)=0:=by omega
    clear hcase
    have hE2:(nm.toList == [103,114,97,109])=true:=HE.out.trans hgr
    go_wp2_with fail
    go_loopw [5,7] (fun ov nv wr=>∃ (n:Nat) (pre:List (List Nat)),nv=.int .i64 (n:Int)∧A≤n∧n≤10∧pre.length+A≤9*q+n∧Hid (pre++(Pl.pcL (cs.drop q) B n++tl)=fin)∧Tkr (w.heap.size+2) ov (pre.map fun u=>(u,pos,F,T)) wr∧Blk w.heap.size 128 #[.slice (some ⟨sg,0,none⟩) cs.length sc,.int .i64 (pos:Int),.int .i64 (F:Int),.int .i64 (T:Int)] wr∧Blk (w.heap.size+1) 207 #[.string nm,.slice wa wn wc,.slice pa pn pc,.int .i64 (A:Int),.int .i64 (B:Int)] wr∧Below w.heap.size w wr) (fun _ nv _=>10 - (intOf nv).toNat)
    case atStart=>exact ⟨A,pre0,rfl,by omega,by omega,by omega,HN,hTk0,hT,hS,hB⟩
    case round =>
     clear t0 t1 t2 t3 tf s0 s1 s2 s3 s4 sf hT hS hB hTk0 HN
     obtain ⟨n,pre,rfl,hAn,hn10,hpl,HN,hTk,hT,hS,hB⟩:=hrel
     obtain ⟨w1,hw1⟩:∃ w1,w1=wr:=⟨_,rfl⟩
     subst hw1
     have hs1:=hB.size
     have hSl:=hS.lt
     obtain ⟨⟨t0,t1,t2,t3⟩,tf⟩:=hT.four
     obtain ⟨s0,s1,s2,s3,s4,sf⟩:=hS.five
     by_cases hcn:n≤B∧q+n≤cs.length
     ·obtain ⟨hnB,hqn⟩:=hcn
      have hnBI:(n:Int)≤(B:Int):=by omega
      have hqnI:(q:Int)+(n:Int)≤(cs.length:Int):=by omega
      have hN:=HN.out
      rw [Pl.pcL_cons _ _ _ ⟨hnB,by omega⟩] at hN
      have HN2:Hid ((pre++[(cs.drop q).take n])++(Pl.pcL (cs.drop q) B (n+1)++tl)=fin):=by show _=_;rw [← hN];simp
      clear hN HN
      have hU0:Blk w1.heap.size 128 #[.slice none 0 0,.int .i64 (pos:Int),.int .i64 (F:Int),.int .i64 (T:Int)] (w1.alloc (.cells #[.slice none 0 0,.int .i64 (pos:Int),.int .i64 (F:Int),.int .i64 (T:Int)] 128)):=heap_alloc_new w1 _
      have hBU:Below w1.heap.size w1 (w1.alloc (.cells #[.slice none 0 0,.int .i64 (pos:Int),.int .i64 (F:Int),.int .i64 (T:Int)] 128)):=(Below.refl _ w1).alloc (Nat.le_refl _) _
      go_wp2_with fail
      go_loopw [9] (fun kv wr=>∃ (kk:Nat) (uv:Value),kv=.int .i64 (kk:Int)∧q≤kk∧kk≤q+n∧Blk w1.heap.size 128 #[uv,.int .i64 (pos:Int),.int .i64 (F:Int),.int .i64 (T:Int)] wr∧wr.ownsRow w1.heap.size 3 1 uv (kk - q) (((cs.drop q).take (kk - q)).map iv)∧Below w1.heap.size w1 wr) (fun kv _=>q+n - (intOf kv).toNat)
      case atStart=>exact ⟨q,.slice none 0 0,rfl,by omega,by omega,hU0,by rw [Nat.sub_self];exact World.ownsRow_nil _ _ _ _,hBU⟩
      case round =>
       clear hU0 hBU
       obtain ⟨kk,uv,rfl,hk1,hk2,hU,hrow,h2⟩:=hrel
       obtain ⟨w2,hw2⟩:∃ w2,w2=wr:=⟨_,rfl⟩
       subst hw2
       have hBw2:Below w.heap.size w w2:=hB.trans (h2.mono hs1)
       have hs2:=h2.size
       have hUl:=hU.lt
       have hT2:=hT.below h2
       have hS2:=hS.below h2
       obtain ⟨⟨a0,a1,a2,a3⟩,af⟩:=hT2.four
       obtain ⟨⟨u0,u1,u2,u3⟩,uf⟩:=hU.four
       clear t0 t1 t2 t3 tf s0 s1 s2 s3 s4 sf
       by_cases hkl:kk<q+n
       ·have hkI:(kk:Int)<(q:Int)+(n:Int):=by omega
        have hkcI:(kk:Int)<(cs.length:Int):=by omega
        have c0:=(hC.below hBw2 hsg).c kk (by omega)
        obtain ⟨d,hd⟩:∃ d,cs[kk]'(by omega)=d:=⟨_,rfl⟩
        have HD:Hid ((cs.drop q).take (kk+1 - q)=(cs.drop q).take (kk - q)++[d]):=by
         show _=_
         have e:=Pl.drop_snoc cs q (kk - q) (by omega)
         rw [show kk - q+1=kk+1 - q by omega] at e
         rw [e,← hd]
         congr 2
         congr 1
         omega
        rw [hd] at c0
        clear hd
        have hneU:uv.ownBlock≠some w1.heap.size:=row_ne_blk hrow hU (by decide)
        have HK:Hid (∀ o w3,((w2.alloc o).drew).grownBy w3 uv.ownBlock→Blk w1.heap.size 128 #[uv,.int .i64 (pos:Int),.int .i64 (F:Int),.int .i64 (T:Int)] w3):=fun o w3 hgw =>
         Blk.keep (show Blk w1.heap.size 128 #[uv,.int .i64 (pos:Int),.int .i64 (F:Int),.int .i64 (T:Int)] ((w2.alloc o).drew) from hU.alloc o) hgw hneU
        have hkq1:kk+1 - q=kk - q+1:=by omega
        have hkq9:kk - q≤10:=by omega
        go_wp2_with fail
        go_region_law
         ((refine step_append_lies _ (by rfl) _ _ _ (by rfl) w1.heap.size 3 i0 _ 1 8 Tryz.underlying55 hi hz0 hz1 hz2 rfl (by omega) uv (kk - q) (((cs.drop q).take (kk - q)).map iv) (by rfl) ((hrow.alloc _).drew) ⟨w2.heap.size,0,none⟩ 1 1 [.int .i64 (d:Int)] (by rfl) (by rfl) (World.news_of_block (cs:=#[.int .i64 (d:Int)]) (t:=3) (fr:=(0,0)) (heap_alloc_new w2 _)) (by simp [Value.oneCell']) (by omega) (by unfold maxLen;omega) (by omega) (by simp;omega) (w2.heap.size+1) (by simp) ?_;intro gn capn w3 hown1 hgrow hat hlt1;have hb3:=HK.out _ _ hgrow;obtain ⟨⟨j0,j1,j2,j3⟩,jf⟩:=hb3.four;have jf0:=jf 0;clear jf))
        all_goals
         go_wp2
         have hB3:Below w1.heap.size w1 w3:=Below.grown ((h2.alloc hs2 _).drew) hgrow (by simp;omega) fun j ej=>(ownBlock_lt hrow ej).2
         refine ⟨⟨kk+1,_,by go_num,by omega,by omega,hb3.f0 _,?_,hB3.setCell (p:=⟨w1.heap.size,0,none⟩) (Nat.le_refl _) _⟩,by simp [intOf];omega⟩
         rw [HD.out,hkq1,List.map_append]
         exact ownsRow_set_other hown1 (row_ne_blk hown1 hb3 (by decide)) 0 _
       ·have hkI:¬ (kk:Int)<(q:Int)+(n:Int):=by omega
        obtain rfl:kk=q+n:=by omega
        rw [Nat.add_sub_cancel_left] at hrow
        obtain ⟨us,hus,hrow1,hco⟩:=hTk.r
        have hcu:=(CoR.of_own hrow).1
        obtain ⟨ua,uc,ug,rfl,_⟩:=hcu.co
        obtain ⟨un,hun⟩:∃ k,((cs.drop q).take n).length=k:=⟨_,rfl⟩
        rw [hun] at hcu hrow hU u0
        have hrow2:=ownsRow_below hrow1 h2
        have hul:us.length=pre.length:=by have:=congrArg List.length hus;simpa using this
        obtain ⟨j0,hi,hz0,hz1,hz2⟩:=info_parts info128
        clear hTk
        go_wp2_with (at_builtin;go_must (refine wpList_append_lies _ (by rfl) _ _ 28 (by rfl) (w.heap.size+2) 128 j0 (.agg #[.slice none 0 0,.int .i64 0,.int .i64 0,.int .i64 0]) 4 48 Tryz.underlying28 hi hz0 hz1 hz2 rfl (by decide) _ us.length (us.flatMap enc4) (by rfl) (hrow2.alloc _) ⟨w2.heap.size,0,none⟩ 1 1 (enc4 (.slice ua un uc,(cs.drop q).take n,pos,F,T)) (by rfl) rfl (World.news_of_block (heap_alloc_new w2 _)) (by simp [enc4,Value.oneCell']) (by decide) (by unfold maxLen;omega) (by omega) (by simp;omega) (w2.heap.size+1) (by simp) ?_);intro gn capn w3 hown1 hgrow hat hlt1;have hB3:Below w.heap.size w w3:=Below.grown (hBw2.alloc (by omega) _) hgrow (by simp;omega) (fun j ej=>by have:=(ownBlock_lt hrow2 ej).2;omega);have hK3:Kp w2 w3:=(Kp.alloc w2 _).trans (Kp.of_grown (hrow2.alloc _) (by decide) hgrow);have hT3:=(hT2.alloc _).keep hgrow (fun e=>by have:=(ownBlock_lt hrow2 e).2;omega);have hS3:=(hS2.alloc _).keep hgrow (fun e=>by have:=(ownBlock_lt hrow2 e).2;omega))
        refine ⟨⟨n+1,pre++[(cs.drop q).take n],by go_num,by omega,by omega,by simp;omega,HN2,⟨us++[(.slice ua un uc,(cs.drop q).take n,pos,F,T)],by simp [hus],?_,?_⟩,hT3,hS3,hB3⟩,by simp [intOf];omega⟩
        ·rw [hul] at hown1
         rw [enc4_snoc,List.length_append,hul]
         exact hown1
        ·intro u hu
         rcases List.mem_append.1 hu with hu | hu
         ·exact (hco u hu).kp ((Kp.of_below h2 (Nat.le_refl _)).trans hK3)
         ·obtain rfl:=List.mem_singleton.1 hu
          exact hcu.kp hK3
     ·have HN2:Hid (pre++tl=fin):=by
       have:=HN.out;rw [Pl.pcL_nil _ _ _ (by omega),List.nil_append] at this;exact this
      have hlq:pre.length≤9*(q+1):=by omega
      by_cases hnB:n≤B
      ·have hnBI:(n:Int)≤(B:Int):=by omega
       have hqnI:¬ (q:Int)+(n:Int)≤(cs.length:Int):=by omega
       go_wp2_with fail
       exact ⟨⟨q+1,m',pre,by go_num,by omega,by omega,hlq,by rw [HTL.out];exact HN2,hTk,hT,hS,hB⟩,by simp [intOf];omega⟩
      ·have hnBI:¬ (n:Int)≤(B:Int):=by omega
       go_wp2_with fail
       exact ⟨⟨q+1,m',pre,by go_num,by omega,by omega,hlq,by rw [HTL.out];exact HN2,hTk,hT,hS,hB⟩,by simp [intOf];omega⟩
  ·have hpr:pre0=fin:=by have:=HX.out;rw [Pl.pcR_no _ _ _ _ _ _ hc] at this;simpa using this
   subst hpr
   by_cases hql:q<cs.length
   ·have hqI:(q:Int)<(cs.length:Int):=by omega
    have hq0:¬ q=0:=fun h=>hc ⟨hql,.inl h⟩
    have hq0I:¬ (q:Int)=0:=by omega
    have hgf:gram=false:=by
     cases gram with
     | true=>exact absurd ⟨hql,.inr rfl⟩ hc
     | false=>rfl
    have hE2:(nm.toList == [103,114,97,109])=false:=HE.out.trans hgf
    go_wp2_with fail
    go_ret
    exact ⟨_,rfl,hTk0.base (by omega),hB⟩
   ·have hqI:¬ (q:Int)<(cs.length:Int):=by omega
    go_wp2_with fail
    go_ret
    exact ⟨_,rfl,hTk0.base (by omega),hB⟩
end Go.Proofs.YtcmgclckknpecaaGreatDoor
