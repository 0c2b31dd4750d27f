import Derived.Test.YtcmgclckknpecaaGreatDoorKbh
import Derived.Test.YtcmgclckknpecaaGreatDoorKbk
namespace Go.Proofs.YtcmgclckknpecaaGreatDoor
open Go.RowKit
namespace Pl
def tkE:List (List Sp)→List ByteArray→Nat→Option (Nat × Nat)
 | C :: Cs,t :: ts,i=>if 120<t.size then some (1,i) else if (runT C (cs (bt t) t.size t.size 0,[])).isNone=true then some (3,i) else tkE Cs ts (i+1)
 | _,_,_=>none
def ins (d:Nat × List ByteArray):List (Nat × List ByteArray)→Bool→List (Nat × List ByteArray)
 | [],done=>if done=true then [] else [d]
 | x :: r,done=>(if done=false∧d.1≤x.1 then [d] else [])++((if x.1≠d.1 then [x] else [])++ins d r (done || decide (d.1≤x.1)))
end Pl
structure TxA (a:Addr) (tx:List ByteArray) (w:World):Prop where
 c:∀ i (h:i<tx.length),w.cell? (a.add i)=some (.string (tx[i]))
structure Chs (v:Value) (Cs:List (List Sp)) (w:World):Prop where
 ex:∃ a cap g,v=.slice a Cs.length cap∧(0<Cs.length→a=some ⟨g,0,none⟩∧g<w.heap.size)∧∀ i (h:i<Cs.length),∃ p n k xs b b2,w.cell? ⟨g,i,none⟩=some (.slice p n k)∧w.ownsRow b 207 5 (.slice p n k) n xs∧Stq b2 (Cs[i]) xs w
structure Kch (C:List Sp):Prop where
 k:∀ q∈C,Kst q
 l:C.length≤15
 e:Pl.ec C≤7
structure PutL (w:World) (Cs:List (List Sp)) (tx:List ByteArray) (E:Option (Nat × Nat)) (iv:Value) (wr:World):Prop where
 ex:∃ j:Nat,iv=.int .i64 (j:Int)∧j≤tx.length∧Pl.tkE (Cs.drop j) (tx.drop j) j=E∧Below w.heap.size w wr
structure PutM (w2:World) (tx:List ByteArray) (idn:Nat) (iv:Value) (wr:World):Prop where
 ex:∃ (q:Nat) (sv:Value),iv=.int .i64 (q:Int)∧q≤tx.length∧Blk w2.heap.size 65 #[.int .i64 (idn:Int),sv] wr∧wr.ownsRow w2.heap.size 9 1 sv q ((tx.take q).map .string)∧Below w2.heap.size w2 wr
structure PutN (w3:World) (idn:Nat) (tx:List ByteArray) (ds fin:List (Nat × List ByteArray)) (lv dv iv:Value) (wr:World):Prop where
 ex:∃ (j:Nat) (pre:List (Nat × List ByteArray)) (dn:Bool),dv=.bool dn∧iv=.int .i64 (j:Int)∧j≤ds.length∧pre.length≤2*j∧pre++Pl.ins (idn,tx) (ds.drop j) dn=fin∧Ds w3.heap.size lv pre wr∧Below w3.heap.size w3 wr
theorem Ds.low {base b':Nat} {v:Value} {ds:List (Nat × List ByteArray)} {w:World} (h:Ds base v ds w) (hb:b'≤base):Ds b' v ds w:=by
 obtain ⟨us,h1,h2,h3⟩:=h.r
 exact ⟨us,h1,ownsRow_low h2 hb,h3⟩
structure PutO (d base:Nat) (v0 v1 v2:Value) (nf:Nat) (Cs:List (List Sp)) (ds:List (Nat × List ByteArray)) (id:Int) (tx:List ByteArray) (w:World) (e:Ending) (w':World):Prop where
 ex:∃ f at_:Nat,e=.returned (.tuple #[.int .i64 (f:Int),.int .i64 (at_:Int)])∧w.grownBy w' (some d) ∧
  ((f ≠ 0 ∧ Dg d v0 v1 v2 w' ∧ Ds base v2 ds w' ∧ ((f = 4 ∧ at_ = 0 ∧ (id < 0 ∨ 999 < id ∨ tx.length ≠ nf)) ∨ (0 ≤ id ∧ id ≤ 999 ∧ tx.length = nf ∧ (Pl.tkE Cs tx 0 = some (f, at_) ∨ (Pl.tkE Cs tx 0 = none ∧ f = 6 ∧ at_ = 0 ∧ Pl.dix id (ds.map (·.1)) 0 = -1 ∧ 12 ≤ ds.length))))) ∨
   (f = 0 ∧ at_ = 0 ∧ 0 ≤ id ∧ id ≤ 999 ∧ tx.length = nf ∧ Pl.tkE Cs tx 0 = none ∧ (Pl.dix id (ds.map (·.1)) 0 ≠ -1 ∨ ds.length < 12) ∧ ∃ v2', Dg d v0 v1 v2' w' ∧ Ds w.heap.size v2' (Pl.ins (id.toNat, tx) ds false) w'))
set_option maxRecDepth 100000 in
set_option maxHeartbeats 8000000 in
theorem rput_any (d base:Nat) (v1 v2:Value) (fa:Option Addr) (nf fc:Nat) (Cs:List (List Sp)) (ds:List (Nat × List ByteArray)) (id:Int) (tx:List ByteArray) (ta:Option Addr) (ga:Addr) (tc:Nat) (w:World) (hD:Dg d (.slice fa nf fc) v1 v2 w) (hDs:Ds base v2 ds w) (hC:Chs v1 Cs w) (hKc:∀ C∈Cs,Kch C) (HNF:Hid (Cs.length=nf)) (hn3:nf≤3) (hl:ds.length≤12)
  (hT:TxA ga tx w) (hta:0<tx.length→ta=some ga) (hgt:0<tx.length→∀ j,(ga.add j).block<w.heap.size) :
  Calls Tryz.prog 86 #[.pointer (some ⟨d,0,none⟩),.int .i64 id,.slice ta tx.length tc] w fun e w'=>PutO d base (.slice fa nf fc) v1 v2 nf Cs ds id tx w e w':=by
 have hdl:d<w.heap.size:=(Array.getElem?_eq_some_iff.1 hD.b).1
 obtain ⟨c0,c1,c2,cf⟩:=hD.cell
 have hgr:w.grownBy w (some d):=World.grownBy.refl _ _
 obtain ⟨i9,hi9,hy0,hy1,hy2⟩:=info_parts info9
 obtain ⟨i65,hi65,hz0,hz1,hz2⟩:=info_parts info65
 by_cases h1:id<0
 ·go_enter Tryz.func86,Tryz.ntmps86
  go_wp2_with fail
  go_ret2
  exact ⟨4,0,rfl,hgr,.inl ⟨by decide,hD,hDs,.inl ⟨rfl,rfl,.inl h1⟩⟩⟩
 ·by_cases h2:999<id
  ·go_enter Tryz.func86,Tryz.ntmps86
   go_wp2_with fail
   go_ret2
   exact ⟨4,0,rfl,hgr,.inl ⟨by decide,hD,hDs,.inl ⟨rfl,rfl,.inr (.inl h2)⟩⟩⟩
  ·by_cases h3:tx.length=nf
   ·have h3I:(tx.length:Int)=(nf:Int):=by omega
    have H3:Hid (tx.length=nf):=h3
    clear h3
    obtain ⟨E,hE⟩:∃ E,Pl.tkE Cs tx 0=E:=⟨_,rfl⟩
    have HE:Hid (Pl.tkE Cs tx 0=E):=hE
    clear hE
    obtain ⟨ca,cc,gc,rfl,hca,hCi⟩:=hC.ex
    have HCI:Hid (∀ i (h:i<Cs.length),∃ p n k xs b b2,w.cell? ⟨gc,i,none⟩=some (.slice p n k)∧w.ownsRow b 207 5 (.slice p n k) n xs∧Stq b2 (Cs[i]) xs w):=hCi
    have HKC:Hid (∀ C∈Cs,Kch C):=hKc
    clear hCi hKc hC
    go_enter Tryz.func86,Tryz.ntmps86
    go_wp2_with fail
    clear h3I
    go_loopw [8] (fun iv wr=>PutL w Cs tx E iv wr) (fun iv _=>tx.length - (intOf iv).toNat)
    case atStart=>exact ⟨0,rfl,by omega,HE.out,Below.refl _ _⟩
    case round =>
     have htx30:tx.length≤3:=by have:=H3.out;omega
     obtain ⟨j,rfl,hj,hJ,hB⟩:=hrel.ex
     clear hrel c0 c1 c2 cf
     have hs1:=hB.size
     have hDr:Dg d (.slice fa nf fc) (.slice ca Cs.length cc) v2 wr:=⟨(hB.block d hdl).trans hD.b⟩
     obtain ⟨c0,c1,c2,cf⟩:=hDr.cell
     by_cases hjl:j<tx.length
     ·have hjI:(j:Int)<(tx.length:Int):=by omega
      have hjC:j<Cs.length:=by have:=H3.out;rw [HNF.out];omega
      have hjCI:(j:Int)<(Cs.length:Int):=by omega
      obtain rfl:=hta (by omega)
      obtain ⟨rfl,hgc⟩:=hca (by omega)
      have t0:=(hB.cell (p:=(ga.add j)) (hgt (by omega) _)).trans (hT.c j hjl)
      have hd1:tx.drop j=tx[j] :: tx.drop (j+1):=List.drop_eq_getElem_cons hjl
      have hd2:Cs.drop j=Cs[j] :: Cs.drop (j+1):=List.drop_eq_getElem_cons hjC
      rw [hd1,hd2,Pl.tkE] at hJ
      obtain ⟨p,n,k,xs0,b,b2,p0,hrow,hQ⟩:=HCI.out j hjC
      replace p0:=(hB.cell (p:=⟨gc,j,none⟩) hgc).trans p0
      have hKj:=HKC.out _ (List.getElem_mem hjC)
      obtain ⟨s,hs⟩:∃ s,tx[j]=s:=⟨_,rfl⟩
      obtain ⟨C,hCC⟩:∃ C,Cs[j]=C:=⟨_,rfl⟩
      rw [hs] at t0 hJ
      rw [hCC] at hJ hQ hKj
      clear hd1 hd2 hs hCC
      by_cases hlong:120<s.size
      ·have hlI:(120:Int)<(s.size:Int):=by omega
       rw [if_pos hlong] at hJ
       subst hJ
       clear hQ hrow
       go_wp2_with fail
       go_ret2
       exact ⟨1,j,rfl,grown_of_below (some d) hB,.inl ⟨by decide,hDr,hDs.below hB,.inr ⟨by omega,by omega,H3.out,.inl HE.out⟩⟩⟩
      ·have hlI:¬ (120:Int)<(s.size:Int):=by omega
       rw [if_neg hlong] at hJ
       obtain ⟨R,hR⟩:∃ R,Pl.runT C (Pl.cs (Pl.bt s) s.size s.size 0,[])=R:=⟨_,rfl⟩
       rw [hR] at hJ
       obtain ⟨q,hq⟩:∃ q,R.isSome=q:=⟨_,rfl⟩
       have HTK:Hid (∀ W,Below w.heap.size w W→Calls Tryz.prog 38 #[.slice p n k,.string s] W fun e w'=>(∃ va vn vc,e=.returned (.tuple #[.slice va vn vc,.bool q]))∧Below W.heap.size W w'):=fun W hW=>(rtake_any s (by omega) C hKj.k hKj.l hKj.e b b2 xs0 (.slice p n k) n W (ownsRow_below hrow hW) (hQ.keep (KqF.below hW)) _ rfl R hR).mono fun e w' ⟨hA,hB⟩=>by
        refine ⟨?_,hB⟩
        rcases hA.ex with ⟨ts,v,h1,rfl,h2⟩ | ⟨h1,rfl⟩
        ·obtain ⟨va,vc,rfl⟩:=h2.len
         rw [h1] at hq
         subst hq
         exact ⟨va,_,vc,rfl⟩
        ·rw [h1] at hq
         subst hq
         exact ⟨none,0,0,rfl⟩
       have HJ:Hid ((if q=false then some (3,j) else Pl.tkE (Cs.drop (j+1)) (tx.drop (j+1)) (j+1))=E):=by
        show _=_
        rw [← hJ,← hq]
        cases R <;> simp
       clear hQ hrow hR hJ hq
       have hgtl:=hgt (by omega)
       go_wp2_with fail
       go_region_held3 (fun w'=>w'.cell? ⟨d,1,none⟩=some (.slice (some ⟨gc,0,none⟩) Cs.length cc)∧w'.cell? ⟨gc,j,none⟩=some (.slice p n k)∧w'.cell? (ga.add j)=some (.string s)) (first | exact ⟨e1,e2,e3⟩ | go_keep) ((go_at_call 38;refine (HTK.out _ hB.drew).mono ?_;rintro e w2 ⟨⟨va,vn,vc,rfl⟩,h2⟩;have hB2:Below w.heap.size w w2:=hB.drew.trans (h2.mono hs1);have e1:=(hB2.cell (p:=⟨d,1,none⟩) hdl).trans ((hB.cell (p:=⟨d,1,none⟩) hdl).symm.trans c1);have e2:=(hB2.cell (p:=⟨gc,j,none⟩) hgc).trans ((hB.cell (p:=⟨gc,j,none⟩) hgc).symm.trans p0);have e3:=(hB2.cell (p:=(ga.add j)) (hgtl _)).trans ((hB.cell (p:=(ga.add j)) (hgtl _)).symm.trans t0)))
       cases q with
       | false =>
        have hEE:E=some (3,j):=HJ.out.symm
        subst hEE
        have hD2:Dg d (.slice fa nf fc) (.slice (some ⟨gc,0,none⟩) Cs.length cc) v2 w2:=⟨(hB2.block d hdl).trans hD.b⟩
        clear HJ
        go_wp2_with fail
        go_ret2
        exact ⟨3,j,rfl,grown_of_below (some d) hB2,.inl ⟨by decide,hD2,hDs.below hB2,.inr ⟨by omega,by omega,H3.out,.inl HE.out⟩⟩⟩
       | true =>
        have HJ2:Hid (Pl.tkE (Cs.drop (j+1)) (tx.drop (j+1)) (j+1)=E):=HJ.out
        clear HJ
        go_wp2_with fail
        exact ⟨⟨j+1,by go_num,by omega,HJ2.out,hB2⟩,by simp [intOf];omega⟩
     ·have hjI:¬ (j:Int)<(tx.length:Int):=by omega
      have hEE:E=none:=by rw [← hJ,List.drop_of_length_le (show tx.length≤j by omega)];cases Cs.drop j <;> rfl
      subst hEE
      have htx3:tx.length≤3:=by have:=H3.out;omega
      obtain ⟨idn,rfl⟩:∃ idn:Nat,id=(idn:Int):=⟨id.toNat,by omega⟩
      have HSP:=Pl.dix_spec (idn:Int) (ds.map (·.1)) 0
      obtain ⟨R,hR⟩:∃ R,Pl.dix (idn:Int) (ds.map (·.1)) 0=R:=⟨_,rfl⟩
      rw [hR] at HSP
      have HR:Hid (Pl.dix (idn:Int) (ds.map (·.1)) 0=R):=hR
      have hRm:R = -1∨0≤R:=by rcases HSP with ⟨h,_⟩ | ⟨k,_,h,_⟩ <;> omega
      have HDO:Hid (∀ W,Below w.heap.size w W→Calls Tryz.prog 151 #[.pointer (some ⟨d,0,none⟩),.int .i64 (idn:Int)] W fun e w'=>e=.returned (.int .i64 R)∧Below W.heap.size W w'):=fun W hW=>rdoc_any d base _ _ v2 ds _ W ⟨(hW.block d (Array.getElem?_eq_some_iff.1 hD.b).1).trans hD.b⟩ (hDs.below hW) (by omega) R hR
      obtain ⟨da,dc,rfl⟩:=hDs.len
      clear hJ HSP hR
      go_wp2_with fail
      refine (HDO.out _ hB).mono ?_
      rintro e w2 ⟨rfl,h2⟩
      have hB2:Below w.heap.size w w2:=hB.trans (h2.mono hs1)
      have hs2:=hB2.size
      have hD2:Dg d (.slice fa nf fc) (.slice ca Cs.length cc) (.slice da ds.length dc) w2:=⟨(hB2.block d hdl).trans hD.b⟩
      clear c0 c1 c2 cf
      obtain ⟨c0,c1,c2,cf⟩:=hD2.cell
      have hBx0:Blk w2.heap.size 65 #[.int .i64 (idn:Int),.slice none 0 0] (w2.alloc (.cells #[.int .i64 (idn:Int),.slice none 0 0] 65)):=heap_alloc_new w2 _
      have hBB0:Below w2.heap.size w2 (w2.alloc (.cells #[.int .i64 (idn:Int),.slice none 0 0] 65)):=(Below.refl _ w2).alloc (Nat.le_refl _) _
      by_cases hful:R<0∧12≤ds.length
      ·have hf1:(12:Int)≤(ds.length:Int):=by omega
       have hf2:R = -1:=by omega
       subst hf2
       clear hBx0 hBB0
       go_wp2_with fail
       go_ret2
       exact ⟨6,0,rfl,grown_of_below (some d) hB2,.inl ⟨by decide,hD2,hDs.below hB2,.inr ⟨by omega,by omega,H3.out,.inr ⟨HE.out,rfl,rfl,HR.out,by omega⟩⟩⟩⟩
      ·by_cases hRn:R<0
       ·have hf2:R = -1:=by omega
        have hf1:¬ (12:Int)≤(ds.length:Int):=by omega
        subst hf2
        go_wp2_with fail
        go_loopw [13] (fun iv wr=>PutM w2 tx idn iv wr) (fun iv _=>tx.length - (intOf iv).toNat)
        case atStart=>exact ⟨0,.slice none 0 0,rfl,by omega,hBx0,by exact World.ownsRow_nil _ _ _ _,hBB0⟩
        case round =>
         clear hBx0 hBB0
         obtain ⟨q,sv,rfl,hq,hbx,hrw,hBq⟩:=hrel.ex
         clear hrel
         have hsq:=hBq.size
         have hbl:=hbx.lt
         have hBwq:Below w.heap.size w wr:=hB2.trans (hBq.mono hs2)
         by_cases hql:q<tx.length
         ·have hqI:(q:Int)<(tx.length:Int):=by omega
          obtain rfl:=hta (by omega)
          have t0:=(hBwq.cell (p:=(ga.add q)) (hgt (by omega) _)).trans (hT.c q hql)
          obtain ⟨x,hx⟩:∃ x,tx[q]=x:=⟨_,rfl⟩
          have HX:Hid ((tx.take (q+1)).map Value.string=(tx.take q).map Value.string++[.string x]):=by show _=_;rw [List.take_succ_eq_append_getElem hql,List.map_append,hx];rfl
          rw [hx] at t0
          clear hx
          obtain ⟨⟨b0,b1⟩,bf⟩:=hbx.two
          have hne:sv.ownBlock≠some w2.heap.size:=row_ne_blk hrw hbx (by decide)
          have HK:Hid (∀ o w5,((wr.alloc o).drew).grownBy w5 sv.ownBlock→Blk w2.heap.size 65 #[.int .i64 (idn:Int),sv] w5):=fun o w5 hgw=>Blk.keep (show Blk w2.heap.size 65 #[.int .i64 (idn:Int),sv] ((wr.alloc o).drew) from hbx.alloc o) hgw hne
          go_wp2_with fail
          go_region_law
           ((refine step_append_lies _ (by rfl) _ _ _ (by rfl) w2.heap.size 9 i9 _ 1 16 Tryz.underlying63 hi9 hy0 hy1 hy2 rfl (by omega) sv q ((tx.take q).map .string) (by rfl) ((hrw.alloc _).drew) ⟨wr.heap.size,0,none⟩ 1 1 [.string x] (by rfl) (by rfl) (World.news_of_block (cs:=#[.string x]) (t:=9) (fr:=(0,0)) (heap_alloc_new wr _)) (by simp [Value.oneCell']) (by omega) (by unfold maxLen;omega) (by omega) (by simp;omega) (wr.heap.size+1) (by simp) ?_;intro gn capn w5 hown1 hgrow hat hlt1;have hb5:=HK.out _ _ hgrow;obtain ⟨⟨j0,j1⟩,jf⟩:=hb5.two;have jf0:=jf 1;clear jf))
          all_goals
           go_wp2
           have hB5:Below w2.heap.size w2 w5:=Below.grown ((hBq.alloc hsq _).drew) hgrow (by simp;omega) fun j ej=>(ownBlock_lt hrw ej).2
           refine ⟨⟨q+1,_,by go_num,by omega,hb5.t1 _,?_,hB5.setCell (p:=⟨w2.heap.size,1,none⟩) (Nat.le_refl _) _⟩,by simp [intOf];omega⟩
           rw [HX.out]
           exact ownsRow_set_other hown1 (row_ne_blk hown1 hb5 (by decide)) 1 _
         ·have hqI:¬ (q:Int)<(tx.length:Int):=by omega
          obtain rfl:q=tx.length:=by omega
          rw [List.take_length] at hrw
          obtain ⟨sa,sc,sg,rfl,_⟩:=row_tx hrw
          obtain ⟨w3,hw3⟩:∃ w3,w3=wr:=⟨_,rfl⟩
          subst hw3
          obtain ⟨fin,hfin⟩:∃ fin,Pl.ins (idn,tx) ds false=fin:=⟨_,rfl⟩
          have HF:Hid (([]:List (Nat × List ByteArray))++Pl.ins (idn,tx) (ds.drop 0) false=fin):=hfin
          have HDA:Hid (∀ W,Below w.heap.size w W→∀ q (hq:q<ds.length),∃ g ta tn tc,da=some ⟨g,0,none⟩∧g<w.heap.size∧W.cell? ⟨g,q*2,none⟩=some (.int .i64 ((ds[q]).1:Int))∧W.cell? ⟨g,q*2+1,none⟩=some (.slice ta tn tc)∧W.ownsRow 0 9 1 (.slice ta tn tc) (ds[q]).2.length ((ds[q]).2.map .string)):=fun W hW q hq=>by
           obtain ⟨g,cap',tv,hv,_,_,h1,h2,h3⟩:=(hDs.below hW).at hq
           obtain ⟨g',cap2,tv',hv',_,hgl,_⟩:=hDs.at hq
           have e1:=(Value.slice.inj hv).1
           have e2:=(Value.slice.inj hv').1
           have e3:g=g':=by rw [e1] at e2;simpa using e2
           subst e3
           obtain ⟨ta,tc,_,rfl,_⟩:=row_tx h3
           exact ⟨g,ta,_,tc,e1,hgl,h1,h2,h3⟩
          obtain ⟨⟨b0,b1⟩,bf⟩:=hbx.two
          clear c0 c1 c2 cf
          obtain ⟨c0,c1,c2,cf⟩:_∧_∧_∧_:=(show Dg d (.slice fa nf fc) (.slice ca Cs.length cc) (.slice da ds.length dc) w3 from ⟨(hBwq.block d hdl).trans hD.b⟩).cell
          go_wp2_with fail
          go_loopw [14,15,16] (fun lv dv iv wr=>PutN w3 idn tx ds fin lv dv iv wr) (fun _ _ iv _=>ds.length - (intOf iv).toNat)
          case atStart=>exact ⟨0,[],false,rfl,rfl,by omega,by simp,HF.out,Ds.nil _ _,Below.refl _ _⟩
          case round =>
           obtain ⟨j,pre,dn,rfl,rfl,hj,hprl,hpf,hP,hBj⟩:=hrel.ex
           clear hrel c0 c1 c2 cf b0 b1 bf
           have hsj:=hBj.size
           have hBwj:Below w.heap.size w wr:=hBwq.trans (hBj.mono (by omega))
           have hDj:Dg d (.slice fa nf fc) (.slice ca Cs.length cc) (.slice da ds.length dc) wr:=⟨(hBwj.block d hdl).trans hD.b⟩
           obtain ⟨c0,c1,c2,cf⟩:=hDj.cell
           have hbj:=hbx.below hBj
           obtain ⟨⟨b0,b1⟩,bf⟩:=hbj.two
           have htj:=ownsRow_below hrw hBj
           by_cases hjl:j<ds.length
           ·have hjI2:(j:Int)<(ds.length:Int):=by omega
            have hd:ds.drop j=ds[j] :: ds.drop (j+1):=List.drop_eq_getElem_cons hjl
            obtain ⟨g,xa,xn,xc,rfl,hgl,p0,p1,htx⟩:=HDA.out wr hBwj j hjl
            obtain ⟨⟨x,xt⟩,hx⟩:∃ x,ds[j]=x:=⟨_,rfl⟩
            rw [hd,hx,Pl.ins] at hpf
            rw [hx] at p0 htx
            simp only at p0 htx hpf
            clear hd hx
            obtain ⟨us2,hus2,hrow2,hco2⟩:=hP.r
            have hul:us2.length≤1000:=by have:=congrArg List.length hus2;simp at this;omega
            cases dn with
            | true =>
             rw [if_neg (by simp),List.nil_append,Bool.true_or] at hpf
             by_cases hxi:x=idn
             ·have hxI:(x:Int)=(idn:Int):=by omega
              rw [if_neg (by omega),List.nil_append] at hpf
              go_wp2_with fail
              exact ⟨⟨j+1,pre,true,rfl,by go_num,by omega,by omega,hpf,hP,hBj⟩,by simp [intOf];omega⟩
             ·have hxI:¬ (x:Int)=(idn:Int):=by omega
              rw [if_pos hxi] at hpf
              have HPF:Hid ((pre++[(x,xt)])++Pl.ins (idn,tx) (ds.drop (j+1)) true=fin):=by show _=_;rw [← hpf];simp
              clear hpf
              go_wp2_with (at_builtin;(refine wpList_append_lies _ (by rfl) _ _ 60 (by rfl) w3.heap.size 65 i65 (.agg #[.int .i64 0,.slice none 0 0]) 2 32 Tryz.underlying60 hi65 hz0 hz1 hz2 rfl (by decide) _ us2.length (us2.flatMap denc) (by rfl) (hrow2.alloc _) ⟨wr.heap.size,0,none⟩ 1 1 (denc (.slice xa xn xc,x,xt)) (by rfl) rfl (World.news_of_block (heap_alloc_new wr _)) (by simp [denc,Value.oneCell']) (by decide) (by unfold maxLen;omega) (by omega) (by simp;omega) (wr.heap.size+1) (by simp) ?_);intro gn capn w5 hown1 hgrow hat hlt1;have hB5:Below w3.heap.size w3 w5:=Below.grown (hBj.alloc hsj _) hgrow (by simp;omega) (fun j ej=>(ownBlock_lt hrow2 ej).2);have hK5:KqF 0 wr w5:=(KqF.below ((Below.refl _ wr).alloc (Nat.le_refl _) _)).trans (KqF.of_row (hrow2.alloc _) (by decide) (by decide) hgrow);have hs5:=hB5.size;have hBw5:Below w.heap.size w w5:=hBwq.trans (hB5.mono (by omega));have q0:=(hBw5.cell (p:=⟨g,j*2,none⟩) hgl).trans ((hBwj.cell (p:=⟨g,j*2,none⟩) hgl).symm.trans p0);have q1:=(hBw5.cell (p:=⟨g,j*2+1,none⟩) hgl).trans ((hBwj.cell (p:=⟨g,j*2+1,none⟩) hgl).symm.trans p1);have q2:=(hBw5.cell (p:=⟨d,2,none⟩) hdl).trans ((hBwj.cell (p:=⟨d,2,none⟩) hdl).symm.trans c2))
              refine ⟨⟨j+1,pre++[(x,xt)],true,rfl,by go_num,by omega,by simp;omega,HPF.out,⟨us2++[(.slice xa xn xc,x,xt)],by simp [hus2],?_,?_⟩,hB5⟩,by simp [intOf];omega⟩
              ·rw [denc_snoc,List.length_append]
               exact hown1
              ·intro u hu
               have hk9:∀ g cur,0≤g→wr.heap[g]?=some (Obj.cells cur 9 (0,0))→w5.heap[g]?=some (Obj.cells cur 9 (0,0)):=fun g cur h0=>hK5 g cur 9 h0 (.inl rfl)
               rcases List.mem_append.1 hu with hu | hu
               ·exact row_keep (hco2 u hu) hk9
               ·obtain rfl:=List.mem_singleton.1 hu
                exact row_keep htx hk9
            | false =>
             by_cases hge:idn≤x
             ·have hgeI:(idn:Int)≤(x:Int):=by omega
              rw [if_pos ⟨rfl,hge⟩,Bool.false_or,decide_eq_true hge] at hpf
              by_cases hxi:x=idn
              ·have hxI:(x:Int)=(idn:Int):=by omega
               rw [if_neg (by omega),List.nil_append] at hpf
               have HPF:Hid ((pre++[(idn,tx)])++Pl.ins (idn,tx) (ds.drop (j+1)) true=fin):=by show _=_;rw [← hpf];simp
               clear hpf
               go_wp2_with (at_builtin;(refine wpList_append_lies _ (by rfl) _ _ 60 (by rfl) w3.heap.size 65 i65 (.agg #[.int .i64 0,.slice none 0 0]) 2 32 Tryz.underlying60 hi65 hz0 hz1 hz2 rfl (by decide) _ us2.length (us2.flatMap denc) (by rfl) (hrow2.alloc _) ⟨wr.heap.size,0,none⟩ 1 1 (denc (.slice sa tx.length sc,idn,tx)) (by rfl) rfl (World.news_of_block (heap_alloc_new wr _)) (by simp [denc,Value.oneCell']) (by decide) (by unfold maxLen;omega) (by omega) (by simp;omega) (wr.heap.size+1) (by simp) ?_);intro gn capn w5 hown1 hgrow hat hlt1;have hB5:Below w3.heap.size w3 w5:=Below.grown (hBj.alloc hsj _) hgrow (by simp;omega) (fun j ej=>(ownBlock_lt hrow2 ej).2);have hK5:KqF 0 wr w5:=(KqF.below ((Below.refl _ wr).alloc (Nat.le_refl _) _)).trans (KqF.of_row (hrow2.alloc _) (by decide) (by decide) hgrow);have hs5:=hB5.size;have hBw5:Below w.heap.size w w5:=hBwq.trans (hB5.mono (by omega));have q0:=(hBw5.cell (p:=⟨g,j*2,none⟩) hgl).trans ((hBwj.cell (p:=⟨g,j*2,none⟩) hgl).symm.trans p0);have q1:=(hBw5.cell (p:=⟨g,j*2+1,none⟩) hgl).trans ((hBwj.cell (p:=⟨g,j*2+1,none⟩) hgl).symm.trans p1);have q2:=(hBw5.cell (p:=⟨d,2,none⟩) hdl).trans ((hBwj.cell (p:=⟨d,2,none⟩) hdl).symm.trans c2))
               refine ⟨⟨j+1,pre++[(idn,tx)],true,rfl,by go_num,by omega,by simp;omega,HPF.out,⟨us2++[(.slice sa tx.length sc,idn,tx)],by simp [hus2],?_,?_⟩,hB5⟩,by simp [intOf];omega⟩
               ·rw [denc_snoc,List.length_append]
                exact hown1
               ·intro u hu
                have hk9:∀ g cur,0≤g→wr.heap[g]?=some (Obj.cells cur 9 (0,0))→w5.heap[g]?=some (Obj.cells cur 9 (0,0)):=fun g cur h0=>hK5 g cur 9 h0 (.inl rfl)
                rcases List.mem_append.1 hu with hu | hu
                ·exact row_keep (hco2 u hu) hk9
                ·obtain rfl:=List.mem_singleton.1 hu
                 exact row_keep (ownsRow_low htj (Nat.zero_le _)) hk9
              ·have hxI:¬ (x:Int)=(idn:Int):=by omega
               rw [if_pos hxi] at hpf
               have HPF:Hid ((pre++[(idn,tx),(x,xt)])++Pl.ins (idn,tx) (ds.drop (j+1)) true=fin):=by show _=_;rw [← hpf];simp
               clear hpf
               go_wp2_with (first | (at_builtin;(refine wpList_append_lies _ (by rfl) _ _ 60 (by rfl) w3.heap.size 65 i65 (.agg #[.int .i64 0,.slice none 0 0]) 2 32 Tryz.underlying60 hi65 hz0 hz1 hz2 rfl (by decide) _ us2.length (us2.flatMap denc) (by rfl) (hrow2.alloc _) ⟨wr.heap.size,0,none⟩ 1 1 (denc (.slice sa tx.length sc,idn,tx)) (by rfl) rfl (World.news_of_block (heap_alloc_new wr _)) (by simp [denc,Value.oneCell']) (by decide) (by unfold maxLen;omega) (by omega) (by simp;omega) (wr.heap.size+1) (by simp) ?_);intro gn capn w5 hown1 hgrow hat hlt1;have hB5:Below w3.heap.size w3 w5:=Below.grown (hBj.alloc hsj _) hgrow (by simp;omega) (fun j ej=>(ownBlock_lt hrow2 ej).2);have hK5:KqF 0 wr w5:=(KqF.below ((Below.refl _ wr).alloc (Nat.le_refl _) _)).trans (KqF.of_row (hrow2.alloc _) (by decide) (by decide) hgrow);have hs5:=hB5.size;have hBw5:Below w.heap.size w w5:=hBwq.trans (hB5.mono (by omega));have q0:=(hBw5.cell (p:=⟨g,j*2,none⟩) hgl).trans ((hBwj.cell (p:=⟨g,j*2,none⟩) hgl).symm.trans p0);have q1:=(hBw5.cell (p:=⟨g,j*2+1,none⟩) hgl).trans ((hBwj.cell (p:=⟨g,j*2+1,none⟩) hgl).symm.trans p1);have q2:=(hBw5.cell (p:=⟨d,2,none⟩) hdl).trans ((hBwj.cell (p:=⟨d,2,none⟩) hdl).symm.trans c2)) | (at_builtin;(refine wpList_append_lies _ (by rfl) _ _ 60 (by rfl) w3.heap.size 65 i65 (.agg #[.int .i64 0,.slice none 0 0]) 2 32 Tryz.underlying60 hi65 hz0 hz1 hz2 rfl (by decide) _ (us2.length+1) (us2.flatMap denc++denc (.slice sa tx.length sc,idn,tx)) (by rfl) (hown1.alloc _) ⟨w5.heap.size,0,none⟩ 1 1 (denc (.slice xa xn xc,x,xt)) (by rfl) rfl (World.news_of_block (heap_alloc_new w5 _)) (by simp [denc,Value.oneCell']) (by decide) (by unfold maxLen;omega) (by omega) (by simp;omega) (w5.heap.size+1) (by simp) ?_);intro gn2 capn2 w6 hown2 hgrow2 hat2 hlt2;have hB6:Below w3.heap.size w3 w6:=Below.grown (hB5.alloc hs5 _) hgrow2 (by simp;omega) (fun j ej=>(ownBlock_lt hown1 ej).2);have hK6:KqF 0 wr w6:=hK5.trans ((KqF.below ((Below.refl _ w5).alloc (Nat.le_refl _) _)).trans (KqF.of_row (hown1.alloc _) (by decide) (by decide) hgrow2))))
               refine ⟨⟨j+1,pre++[(idn,tx),(x,xt)],true,rfl,by go_num,by omega,by simp;omega,HPF.out,⟨us2++[(.slice sa tx.length sc,idn,tx)]++[(.slice xa xn xc,x,xt)],by simp [hus2],?_,?_⟩,hB6⟩,by simp [intOf];omega⟩
               ·rw [denc_snoc,denc_snoc,List.length_append,List.length_append]
                exact hown2
               ·intro u hu
                have hk9:∀ g cur,0≤g→wr.heap[g]?=some (Obj.cells cur 9 (0,0))→w6.heap[g]?=some (Obj.cells cur 9 (0,0)):=fun g cur h0=>hK6 g cur 9 h0 (.inl rfl)
                rcases List.mem_append.1 hu with hu | hu
                ·rcases List.mem_append.1 hu with hu | hu
                 ·exact row_keep (hco2 u hu) hk9
                 ·obtain rfl:=List.mem_singleton.1 hu
                  exact row_keep (ownsRow_low htj (Nat.zero_le _)) hk9
                ·obtain rfl:=List.mem_singleton.1 hu
                 exact row_keep htx hk9
             ·have hgeI:¬ (idn:Int)≤(x:Int):=by omega
              have hxI:¬ (x:Int)=(idn:Int):=by omega
              rw [if_neg (fun h=>hge h.2),List.nil_append,Bool.false_or,decide_eq_false hge,if_pos (by omega)] at hpf
              have HPF:Hid ((pre++[(x,xt)])++Pl.ins (idn,tx) (ds.drop (j+1)) false=fin):=by show _=_;rw [← hpf];simp
              clear hpf
              go_wp2_with (at_builtin;(refine wpList_append_lies _ (by rfl) _ _ 60 (by rfl) w3.heap.size 65 i65 (.agg #[.int .i64 0,.slice none 0 0]) 2 32 Tryz.underlying60 hi65 hz0 hz1 hz2 rfl (by decide) _ us2.length (us2.flatMap denc) (by rfl) (hrow2.alloc _) ⟨wr.heap.size,0,none⟩ 1 1 (denc (.slice xa xn xc,x,xt)) (by rfl) rfl (World.news_of_block (heap_alloc_new wr _)) (by simp [denc,Value.oneCell']) (by decide) (by unfold maxLen;omega) (by omega) (by simp;omega) (wr.heap.size+1) (by simp) ?_);intro gn capn w5 hown1 hgrow hat hlt1;have hB5:Below w3.heap.size w3 w5:=Below.grown (hBj.alloc hsj _) hgrow (by simp;omega) (fun j ej=>(ownBlock_lt hrow2 ej).2);have hK5:KqF 0 wr w5:=(KqF.below ((Below.refl _ wr).alloc (Nat.le_refl _) _)).trans (KqF.of_row (hrow2.alloc _) (by decide) (by decide) hgrow);have hs5:=hB5.size;have hBw5:Below w.heap.size w w5:=hBwq.trans (hB5.mono (by omega));have q0:=(hBw5.cell (p:=⟨g,j*2,none⟩) hgl).trans ((hBwj.cell (p:=⟨g,j*2,none⟩) hgl).symm.trans p0);have q1:=(hBw5.cell (p:=⟨g,j*2+1,none⟩) hgl).trans ((hBwj.cell (p:=⟨g,j*2+1,none⟩) hgl).symm.trans p1);have q2:=(hBw5.cell (p:=⟨d,2,none⟩) hdl).trans ((hBwj.cell (p:=⟨d,2,none⟩) hdl).symm.trans c2))
              refine ⟨⟨j+1,pre++[(x,xt)],false,rfl,by go_num,by omega,by simp;omega,HPF.out,⟨us2++[(.slice xa xn xc,x,xt)],by simp [hus2],?_,?_⟩,hB5⟩,by simp [intOf];omega⟩
              ·rw [denc_snoc,List.length_append]
               exact hown1
              ·intro u hu
               have hk9:∀ g cur,0≤g→wr.heap[g]?=some (Obj.cells cur 9 (0,0))→w5.heap[g]?=some (Obj.cells cur 9 (0,0)):=fun g cur h0=>hK5 g cur 9 h0 (.inl rfl)
               rcases List.mem_append.1 hu with hu | hu
               ·exact row_keep (hco2 u hu) hk9
               ·obtain rfl:=List.mem_singleton.1 hu
                exact row_keep htx hk9
           ·have hjI2:¬ (j:Int)<(ds.length:Int):=by omega
            rw [List.drop_of_length_le (show ds.length≤j by omega),Pl.ins] at hpf
            cases dn with
            | true =>
             rw [if_pos rfl,List.append_nil] at hpf
             subst hpf
             obtain ⟨la,lc,rfl⟩:=hP.len
             go_wp2_with fail
             go_ret2
             refine ⟨0,0,rfl,grown_trans (grown_of_below (some d) hBwj) (grown_set _ _ _ _),.inr ⟨rfl,rfl,by omega,by omega,H3.out,HE.out,.inr (by omega),_,hDj.set2 _,?_⟩⟩
             rw [Int.toNat_natCast,hfin]
             exact (Ds.low hP (by omega)).set hDj.b 2 _
            | false =>
             rw [if_neg (by simp)] at hpf
             obtain ⟨us2,hus2,hrow2,hco2⟩:=hP.r
             have hul:us2.length≤1000:=by have:=congrArg List.length hus2;simp at this;omega
             go_wp2_with (at_builtin;(refine wpList_append_lies _ (by rfl) _ _ 60 (by rfl) w3.heap.size 65 i65 (.agg #[.int .i64 0,.slice none 0 0]) 2 32 Tryz.underlying60 hi65 hz0 hz1 hz2 rfl (by decide) _ us2.length (us2.flatMap denc) (by rfl) (hrow2.alloc _) ⟨wr.heap.size,0,none⟩ 1 1 (denc (.slice sa tx.length sc,idn,tx)) (by rfl) rfl (World.news_of_block (heap_alloc_new wr _)) (by simp [denc,Value.oneCell']) (by decide) (by unfold maxLen;omega) (by omega) (by simp;omega) (wr.heap.size+1) (by simp) ?_);intro gn capn w5 hown1 hgrow hat hlt1;have hB5:Below w3.heap.size w3 w5:=Below.grown (hBj.alloc hsj _) hgrow (by simp;omega) (fun j ej=>(ownBlock_lt hrow2 ej).2);have hK5:KqF 0 wr w5:=(KqF.below ((Below.refl _ wr).alloc (Nat.le_refl _) _)).trans (KqF.of_row (hrow2.alloc _) (by decide) (by decide) hgrow);have hBw5:Below w.heap.size w w5:=hBwq.trans (hB5.mono (by omega));have hD5:Dg d (.slice fa nf fc) (.slice ca Cs.length cc) (.slice da ds.length dc) w5:=⟨(hBw5.block d hdl).trans hD.b⟩;obtain ⟨f0,f1,f2,ff⟩:=hD5.cell)
             go_ret2
             have hP5:Ds w3.heap.size (.slice (some ⟨gn,0,none⟩) (us2.length+1) capn) fin w5:=by
              refine ⟨us2++[(.slice sa tx.length sc,idn,tx)],by rw [← hpf];simp [hus2],?_,?_⟩
              ·rw [denc_snoc,List.length_append]
               exact hown1
              ·intro u hu
               have hk9:∀ g cur,0≤g→wr.heap[g]?=some (Obj.cells cur 9 (0,0))→w5.heap[g]?=some (Obj.cells cur 9 (0,0)):=fun g cur h0=>hK5 g cur 9 h0 (.inl rfl)
               rcases List.mem_append.1 hu with hu | hu
               ·exact row_keep (hco2 u hu) hk9
               ·obtain rfl:=List.mem_singleton.1 hu
                exact row_keep (ownsRow_low htj (Nat.zero_le _)) hk9
             refine ⟨0,0,rfl,grown_trans (grown_of_below (some d) hBw5) (grown_set _ _ _ _),.inr ⟨rfl,rfl,by omega,by omega,H3.out,HE.out,.inr (by omega),_,hD5.set2 _,?_⟩⟩
             rw [Int.toNat_natCast,hfin]
             exact (Ds.low hP5 (by omega)).set hD5.b 2 _
       ·have hRn2:¬ R<0:=hRn
        go_wp2_with fail
        go_loopw [13] (fun iv wr=>PutM w2 tx idn iv wr) (fun iv _=>tx.length - (intOf iv).toNat)
        case atStart=>exact ⟨0,.slice none 0 0,rfl,by omega,hBx0,by exact World.ownsRow_nil _ _ _ _,hBB0⟩
        case round =>
         clear hBx0 hBB0
         obtain ⟨q,sv,rfl,hq,hbx,hrw,hBq⟩:=hrel.ex
         clear hrel
         have hsq:=hBq.size
         have hbl:=hbx.lt
         have hBwq:Below w.heap.size w wr:=hB2.trans (hBq.mono hs2)
         by_cases hql:q<tx.length
         ·have hqI:(q:Int)<(tx.length:Int):=by omega
          obtain rfl:=hta (by omega)
          have t0:=(hBwq.cell (p:=(ga.add q)) (hgt (by omega) _)).trans (hT.c q hql)
          obtain ⟨x,hx⟩:∃ x,tx[q]=x:=⟨_,rfl⟩
          have HX:Hid ((tx.take (q+1)).map Value.string=(tx.take q).map Value.string++[.string x]):=by show _=_;rw [List.take_succ_eq_append_getElem hql,List.map_append,hx];rfl
          rw [hx] at t0
          clear hx
          obtain ⟨⟨b0,b1⟩,bf⟩:=hbx.two
          have hne:sv.ownBlock≠some w2.heap.size:=row_ne_blk hrw hbx (by decide)
          have HK:Hid (∀ o w5,((wr.alloc o).drew).grownBy w5 sv.ownBlock→Blk w2.heap.size 65 #[.int .i64 (idn:Int),sv] w5):=fun o w5 hgw=>Blk.keep (show Blk w2.heap.size 65 #[.int .i64 (idn:Int),sv] ((wr.alloc o).drew) from hbx.alloc o) hgw hne
          go_wp2_with fail
          go_region_law
           ((refine step_append_lies _ (by rfl) _ _ _ (by rfl) w2.heap.size 9 i9 _ 1 16 Tryz.underlying63 hi9 hy0 hy1 hy2 rfl (by omega) sv q ((tx.take q).map .string) (by rfl) ((hrw.alloc _).drew) ⟨wr.heap.size,0,none⟩ 1 1 [.string x] (by rfl) (by rfl) (World.news_of_block (cs:=#[.string x]) (t:=9) (fr:=(0,0)) (heap_alloc_new wr _)) (by simp [Value.oneCell']) (by omega) (by unfold maxLen;omega) (by omega) (by simp;omega) (wr.heap.size+1) (by simp) ?_;intro gn capn w5 hown1 hgrow hat hlt1;have hb5:=HK.out _ _ hgrow;obtain ⟨⟨j0,j1⟩,jf⟩:=hb5.two;have jf0:=jf 1;clear jf))
          all_goals
           go_wp2
           have hB5:Below w2.heap.size w2 w5:=Below.grown ((hBq.alloc hsq _).drew) hgrow (by simp;omega) fun j ej=>(ownBlock_lt hrw ej).2
           refine ⟨⟨q+1,_,by go_num,by omega,hb5.t1 _,?_,hB5.setCell (p:=⟨w2.heap.size,1,none⟩) (Nat.le_refl _) _⟩,by simp [intOf];omega⟩
           rw [HX.out]
           exact ownsRow_set_other hown1 (row_ne_blk hown1 hb5 (by decide)) 1 _
         ·have hqI:¬ (q:Int)<(tx.length:Int):=by omega
          obtain rfl:q=tx.length:=by omega
          rw [List.take_length] at hrw
          obtain ⟨sa,sc,sg,rfl,_⟩:=row_tx hrw
          obtain ⟨w3,hw3⟩:∃ w3,w3=wr:=⟨_,rfl⟩
          subst hw3
          obtain ⟨fin,hfin⟩:∃ fin,Pl.ins (idn,tx) ds false=fin:=⟨_,rfl⟩
          have HF:Hid (([]:List (Nat × List ByteArray))++Pl.ins (idn,tx) (ds.drop 0) false=fin):=hfin
          have HDA:Hid (∀ W,Below w.heap.size w W→∀ q (hq:q<ds.length),∃ g ta tn tc,da=some ⟨g,0,none⟩∧g<w.heap.size∧W.cell? ⟨g,q*2,none⟩=some (.int .i64 ((ds[q]).1:Int))∧W.cell? ⟨g,q*2+1,none⟩=some (.slice ta tn tc)∧W.ownsRow 0 9 1 (.slice ta tn tc) (ds[q]).2.length ((ds[q]).2.map .string)):=fun W hW q hq=>by
           obtain ⟨g,cap',tv,hv,_,_,h1,h2,h3⟩:=(hDs.below hW).at hq
           obtain ⟨g',cap2,tv',hv',_,hgl,_⟩:=hDs.at hq
           have e1:=(Value.slice.inj hv).1
           have e2:=(Value.slice.inj hv').1
           have e3:g=g':=by rw [e1] at e2;simpa using e2
           subst e3
           obtain ⟨ta,tc,_,rfl,_⟩:=row_tx h3
           exact ⟨g,ta,_,tc,e1,hgl,h1,h2,h3⟩
          obtain ⟨⟨b0,b1⟩,bf⟩:=hbx.two
          clear c0 c1 c2 cf
          obtain ⟨c0,c1,c2,cf⟩:_∧_∧_∧_:=(show Dg d (.slice fa nf fc) (.slice ca Cs.length cc) (.slice da ds.length dc) w3 from ⟨(hBwq.block d hdl).trans hD.b⟩).cell
          go_wp2_with fail
          go_loopw [14,15,16] (fun lv dv iv wr=>PutN w3 idn tx ds fin lv dv iv wr) (fun _ _ iv _=>ds.length - (intOf iv).toNat)
          case atStart=>exact ⟨0,[],false,rfl,rfl,by omega,by simp,HF.out,Ds.nil _ _,Below.refl _ _⟩
          case round =>
           obtain ⟨j,pre,dn,rfl,rfl,hj,hprl,hpf,hP,hBj⟩:=hrel.ex
           clear hrel c0 c1 c2 cf b0 b1 bf
           have hsj:=hBj.size
           have hBwj:Below w.heap.size w wr:=hBwq.trans (hBj.mono (by omega))
           have hDj:Dg d (.slice fa nf fc) (.slice ca Cs.length cc) (.slice da ds.length dc) wr:=⟨(hBwj.block d hdl).trans hD.b⟩
           obtain ⟨c0,c1,c2,cf⟩:=hDj.cell
           have hbj:=hbx.below hBj
           obtain ⟨⟨b0,b1⟩,bf⟩:=hbj.two
           have htj:=ownsRow_below hrw hBj
           by_cases hjl:j<ds.length
           ·have hjI2:(j:Int)<(ds.length:Int):=by omega
            have hd:ds.drop j=ds[j] :: ds.drop (j+1):=List.drop_eq_getElem_cons hjl
            obtain ⟨g,xa,xn,xc,rfl,hgl,p0,p1,htx⟩:=HDA.out wr hBwj j hjl
            obtain ⟨⟨x,xt⟩,hx⟩:∃ x,ds[j]=x:=⟨_,rfl⟩
            rw [hd,hx,Pl.ins] at hpf
            rw [hx] at p0 htx
            simp only at p0 htx hpf
            clear hd hx
            obtain ⟨us2,hus2,hrow2,hco2⟩:=hP.r
            have hul:us2.length≤1000:=by have:=congrArg List.length hus2;simp at this;omega
            cases dn with
            | true =>
             rw [if_neg (by simp),List.nil_append,Bool.true_or] at hpf
             by_cases hxi:x=idn
             ·have hxI:(x:Int)=(idn:Int):=by omega
              rw [if_neg (by omega),List.nil_append] at hpf
              go_wp2_with fail
              exact ⟨⟨j+1,pre,true,rfl,by go_num,by omega,by omega,hpf,hP,hBj⟩,by simp [intOf];omega⟩
             ·have hxI:¬ (x:Int)=(idn:Int):=by omega
              rw [if_pos hxi] at hpf
              have HPF:Hid ((pre++[(x,xt)])++Pl.ins (idn,tx) (ds.drop (j+1)) true=fin):=by show _=_;rw [← hpf];simp
              clear hpf
              go_wp2_with (at_builtin;(refine wpList_append_lies _ (by rfl) _ _ 60 (by rfl) w3.heap.size 65 i65 (.agg #[.int .i64 0,.slice none 0 0]) 2 32 Tryz.underlying60 hi65 hz0 hz1 hz2 rfl (by decide) _ us2.length (us2.flatMap denc) (by rfl) (hrow2.alloc _) ⟨wr.heap.size,0,none⟩ 1 1 (denc (.slice xa xn xc,x,xt)) (by rfl) rfl (World.news_of_block (heap_alloc_new wr _)) (by simp [denc,Value.oneCell']) (by decide) (by unfold maxLen;omega) (by omega) (by simp;omega) (wr.heap.size+1) (by simp) ?_);intro gn capn w5 hown1 hgrow hat hlt1;have hB5:Below w3.heap.size w3 w5:=Below.grown (hBj.alloc hsj _) hgrow (by simp;omega) (fun j ej=>(ownBlock_lt hrow2 ej).2);have hK5:KqF 0 wr w5:=(KqF.below ((Below.refl _ wr).alloc (Nat.le_refl _) _)).trans (KqF.of_row (hrow2.alloc _) (by decide) (by decide) hgrow);have hs5:=hB5.size;have hBw5:Below w.heap.size w w5:=hBwq.trans (hB5.mono (by omega));have q0:=(hBw5.cell (p:=⟨g,j*2,none⟩) hgl).trans ((hBwj.cell (p:=⟨g,j*2,none⟩) hgl).symm.trans p0);have q1:=(hBw5.cell (p:=⟨g,j*2+1,none⟩) hgl).trans ((hBwj.cell (p:=⟨g,j*2+1,none⟩) hgl).symm.trans p1);have q2:=(hBw5.cell (p:=⟨d,2,none⟩) hdl).trans ((hBwj.cell (p:=⟨d,2,none⟩) hdl).symm.trans c2))
              refine ⟨⟨j+1,pre++[(x,xt)],true,rfl,by go_num,by omega,by simp;omega,HPF.out,⟨us2++[(.slice xa xn xc,x,xt)],by simp [hus2],?_,?_⟩,hB5⟩,by simp [intOf];omega⟩
              ·rw [denc_snoc,List.length_append]
               exact hown1
              ·intro u hu
               have hk9:∀ g cur,0≤g→wr.heap[g]?=some (Obj.cells cur 9 (0,0))→w5.heap[g]?=some (Obj.cells cur 9 (0,0)):=fun g cur h0=>hK5 g cur 9 h0 (.inl rfl)
               rcases List.mem_append.1 hu with hu | hu
               ·exact row_keep (hco2 u hu) hk9
               ·obtain rfl:=List.mem_singleton.1 hu
                exact row_keep htx hk9
            | false =>
             by_cases hge:idn≤x
             ·have hgeI:(idn:Int)≤(x:Int):=by omega
              rw [if_pos ⟨rfl,hge⟩,Bool.false_or,decide_eq_true hge] at hpf
              by_cases hxi:x=idn
              ·have hxI:(x:Int)=(idn:Int):=by omega
               rw [if_neg (by omega),List.nil_append] at hpf
               have HPF:Hid ((pre++[(idn,tx)])++Pl.ins (idn,tx) (ds.drop (j+1)) true=fin):=by show _=_;rw [← hpf];simp
               clear hpf
               go_wp2_with (at_builtin;(refine wpList_append_lies _ (by rfl) _ _ 60 (by rfl) w3.heap.size 65 i65 (.agg #[.int .i64 0,.slice none 0 0]) 2 32 Tryz.underlying60 hi65 hz0 hz1 hz2 rfl (by decide) _ us2.length (us2.flatMap denc) (by rfl) (hrow2.alloc _) ⟨wr.heap.size,0,none⟩ 1 1 (denc (.slice sa tx.length sc,idn,tx)) (by rfl) rfl (World.news_of_block (heap_alloc_new wr _)) (by simp [denc,Value.oneCell']) (by decide) (by unfold maxLen;omega) (by omega) (by simp;omega) (wr.heap.size+1) (by simp) ?_);intro gn capn w5 hown1 hgrow hat hlt1;have hB5:Below w3.heap.size w3 w5:=Below.grown (hBj.alloc hsj _) hgrow (by simp;omega) (fun j ej=>(ownBlock_lt hrow2 ej).2);have hK5:KqF 0 wr w5:=(KqF.below ((Below.refl _ wr).alloc (Nat.le_refl _) _)).trans (KqF.of_row (hrow2.alloc _) (by decide) (by decide) hgrow);have hs5:=hB5.size;have hBw5:Below w.heap.size w w5:=hBwq.trans (hB5.mono (by omega));have q0:=(hBw5.cell (p:=⟨g,j*2,none⟩) hgl).trans ((hBwj.cell (p:=⟨g,j*2,none⟩) hgl).symm.trans p0);have q1:=(hBw5.cell (p:=⟨g,j*2+1,none⟩) hgl).trans ((hBwj.cell (p:=⟨g,j*2+1,none⟩) hgl).symm.trans p1);have q2:=(hBw5.cell (p:=⟨d,2,none⟩) hdl).trans ((hBwj.cell (p:=⟨d,2,none⟩) hdl).symm.trans c2))
               refine ⟨⟨j+1,pre++[(idn,tx)],true,rfl,by go_num,by omega,by simp;omega,HPF.out,⟨us2++[(.slice sa tx.length sc,idn,tx)],by simp [hus2],?_,?_⟩,hB5⟩,by simp [intOf];omega⟩
               ·rw [denc_snoc,List.length_append]
                exact hown1
               ·intro u hu
                have hk9:∀ g cur,0≤g→wr.heap[g]?=some (Obj.cells cur 9 (0,0))→w5.heap[g]?=some (Obj.cells cur 9 (0,0)):=fun g cur h0=>hK5 g cur 9 h0 (.inl rfl)
                rcases List.mem_append.1 hu with hu | hu
                ·exact row_keep (hco2 u hu) hk9
                ·obtain rfl:=List.mem_singleton.1 hu
                 exact row_keep (ownsRow_low htj (Nat.zero_le _)) hk9
              ·have hxI:¬ (x:Int)=(idn:Int):=by omega
               rw [if_pos hxi] at hpf
               have HPF:Hid ((pre++[(idn,tx),(x,xt)])++Pl.ins (idn,tx) (ds.drop (j+1)) true=fin):=by show _=_;rw [← hpf];simp
               clear hpf
               go_wp2_with (first | (at_builtin;(refine wpList_append_lies _ (by rfl) _ _ 60 (by rfl) w3.heap.size 65 i65 (.agg #[.int .i64 0,.slice none 0 0]) 2 32 Tryz.underlying60 hi65 hz0 hz1 hz2 rfl (by decide) _ us2.length (us2.flatMap denc) (by rfl) (hrow2.alloc _) ⟨wr.heap.size,0,none⟩ 1 1 (denc (.slice sa tx.length sc,idn,tx)) (by rfl) rfl (World.news_of_block (heap_alloc_new wr _)) (by simp [denc,Value.oneCell']) (by decide) (by unfold maxLen;omega) (by omega) (by simp;omega) (wr.heap.size+1) (by simp) ?_);intro gn capn w5 hown1 hgrow hat hlt1;have hB5:Below w3.heap.size w3 w5:=Below.grown (hBj.alloc hsj _) hgrow (by simp;omega) (fun j ej=>(ownBlock_lt hrow2 ej).2);have hK5:KqF 0 wr w5:=(KqF.below ((Below.refl _ wr).alloc (Nat.le_refl _) _)).trans (KqF.of_row (hrow2.alloc _) (by decide) (by decide) hgrow);have hs5:=hB5.size;have hBw5:Below w.heap.size w w5:=hBwq.trans (hB5.mono (by omega));have q0:=(hBw5.cell (p:=⟨g,j*2,none⟩) hgl).trans ((hBwj.cell (p:=⟨g,j*2,none⟩) hgl).symm.trans p0);have q1:=(hBw5.cell (p:=⟨g,j*2+1,none⟩) hgl).trans ((hBwj.cell (p:=⟨g,j*2+1,none⟩) hgl).symm.trans p1);have q2:=(hBw5.cell (p:=⟨d,2,none⟩) hdl).trans ((hBwj.cell (p:=⟨d,2,none⟩) hdl).symm.trans c2)) | (at_builtin;(refine wpList_append_lies _ (by rfl) _ _ 60 (by rfl) w3.heap.size 65 i65 (.agg #[.int .i64 0,.slice none 0 0]) 2 32 Tryz.underlying60 hi65 hz0 hz1 hz2 rfl (by decide) _ (us2.length+1) (us2.flatMap denc++denc (.slice sa tx.length sc,idn,tx)) (by rfl) (hown1.alloc _) ⟨w5.heap.size,0,none⟩ 1 1 (denc (.slice xa xn xc,x,xt)) (by rfl) rfl (World.news_of_block (heap_alloc_new w5 _)) (by simp [denc,Value.oneCell']) (by decide) (by unfold maxLen;omega) (by omega) (by simp;omega) (w5.heap.size+1) (by simp) ?_);intro gn2 capn2 w6 hown2 hgrow2 hat2 hlt2;have hB6:Below w3.heap.size w3 w6:=Below.grown (hB5.alloc hs5 _) hgrow2 (by simp;omega) (fun j ej=>(ownBlock_lt hown1 ej).2);have hK6:KqF 0 wr w6:=hK5.trans ((KqF.below ((Below.refl _ w5).alloc (Nat.le_refl _) _)).trans (KqF.of_row (hown1.alloc _) (by decide) (by decide) hgrow2))))
               refine ⟨⟨j+1,pre++[(idn,tx),(x,xt)],true,rfl,by go_num,by omega,by simp;omega,HPF.out,⟨us2++[(.slice sa tx.length sc,idn,tx)]++[(.slice xa xn xc,x,xt)],by simp [hus2],?_,?_⟩,hB6⟩,by simp [intOf];omega⟩
               ·rw [denc_snoc,denc_snoc,List.length_append,List.length_append]
                exact hown2
               ·intro u hu
                have hk9:∀ g cur,0≤g→wr.heap[g]?=some (Obj.cells cur 9 (0,0))→w6.heap[g]?=some (Obj.cells cur 9 (0,0)):=fun g cur h0=>hK6 g cur 9 h0 (.inl rfl)
                rcases List.mem_append.1 hu with hu | hu
                ·rcases List.mem_append.1 hu with hu | hu
                 ·exact row_keep (hco2 u hu) hk9
                 ·obtain rfl:=List.mem_singleton.1 hu
                  exact row_keep (ownsRow_low htj (Nat.zero_le _)) hk9
                ·obtain rfl:=List.mem_singleton.1 hu
                 exact row_keep htx hk9
             ·have hgeI:¬ (idn:Int)≤(x:Int):=by omega
              have hxI:¬ (x:Int)=(idn:Int):=by omega
              rw [if_neg (fun h=>hge h.2),List.nil_append,Bool.false_or,decide_eq_false hge,if_pos (by omega)] at hpf
              have HPF:Hid ((pre++[(x,xt)])++Pl.ins (idn,tx) (ds.drop (j+1)) false=fin):=by show _=_;rw [← hpf];simp
              clear hpf
              go_wp2_with (at_builtin;(refine wpList_append_lies _ (by rfl) _ _ 60 (by rfl) w3.heap.size 65 i65 (.agg #[.int .i64 0,.slice none 0 0]) 2 32 Tryz.underlying60 hi65 hz0 hz1 hz2 rfl (by decide) _ us2.length (us2.flatMap denc) (by rfl) (hrow2.alloc _) ⟨wr.heap.size,0,none⟩ 1 1 (denc (.slice xa xn xc,x,xt)) (by rfl) rfl (World.news_of_block (heap_alloc_new wr _)) (by simp [denc,Value.oneCell']) (by decide) (by unfold maxLen;omega) (by omega) (by simp;omega) (wr.heap.size+1) (by simp) ?_);intro gn capn w5 hown1 hgrow hat hlt1;have hB5:Below w3.heap.size w3 w5:=Below.grown (hBj.alloc hsj _) hgrow (by simp;omega) (fun j ej=>(ownBlock_lt hrow2 ej).2);have hK5:KqF 0 wr w5:=(KqF.below ((Below.refl _ wr).alloc (Nat.le_refl _) _)).trans (KqF.of_row (hrow2.alloc _) (by decide) (by decide) hgrow);have hs5:=hB5.size;have hBw5:Below w.heap.size w w5:=hBwq.trans (hB5.mono (by omega));have q0:=(hBw5.cell (p:=⟨g,j*2,none⟩) hgl).trans ((hBwj.cell (p:=⟨g,j*2,none⟩) hgl).symm.trans p0);have q1:=(hBw5.cell (p:=⟨g,j*2+1,none⟩) hgl).trans ((hBwj.cell (p:=⟨g,j*2+1,none⟩) hgl).symm.trans p1);have q2:=(hBw5.cell (p:=⟨d,2,none⟩) hdl).trans ((hBwj.cell (p:=⟨d,2,none⟩) hdl).symm.trans c2))
              refine ⟨⟨j+1,pre++[(x,xt)],false,rfl,by go_num,by omega,by simp;omega,HPF.out,⟨us2++[(.slice xa xn xc,x,xt)],by simp [hus2],?_,?_⟩,hB5⟩,by simp [intOf];omega⟩
              ·rw [denc_snoc,List.length_append]
               exact hown1
              ·intro u hu
               have hk9:∀ g cur,0≤g→wr.heap[g]?=some (Obj.cells cur 9 (0,0))→w5.heap[g]?=some (Obj.cells cur 9 (0,0)):=fun g cur h0=>hK5 g cur 9 h0 (.inl rfl)
               rcases List.mem_append.1 hu with hu | hu
               ·exact row_keep (hco2 u hu) hk9
               ·obtain rfl:=List.mem_singleton.1 hu
                exact row_keep htx hk9
           ·have hjI2:¬ (j:Int)<(ds.length:Int):=by omega
            rw [List.drop_of_length_le (show ds.length≤j by omega),Pl.ins] at hpf
            cases dn with
            | true =>
             rw [if_pos rfl,List.append_nil] at hpf
             subst hpf
             obtain ⟨la,lc,rfl⟩:=hP.len
             go_wp2_with fail
             go_ret2
             refine ⟨0,0,rfl,grown_trans (grown_of_below (some d) hBwj) (grown_set _ _ _ _),.inr ⟨rfl,rfl,by omega,by omega,H3.out,HE.out,.inl (by rw [HR.out];omega),_,hDj.set2 _,?_⟩⟩
             rw [Int.toNat_natCast,hfin]
             exact (Ds.low hP (by omega)).set hDj.b 2 _
            | false =>
             rw [if_neg (by simp)] at hpf
             obtain ⟨us2,hus2,hrow2,hco2⟩:=hP.r
             have hul:us2.length≤1000:=by have:=congrArg List.length hus2;simp at this;omega
             go_wp2_with (at_builtin;(refine wpList_append_lies _ (by rfl) _ _ 60 (by rfl) w3.heap.size 65 i65 (.agg #[.int .i64 0,.slice none 0 0]) 2 32 Tryz.underlying60 hi65 hz0 hz1 hz2 rfl (by decide) _ us2.length (us2.flatMap denc) (by rfl) (hrow2.alloc _) ⟨wr.heap.size,0,none⟩ 1 1 (denc (.slice sa tx.length sc,idn,tx)) (by rfl) rfl (World.news_of_block (heap_alloc_new wr _)) (by simp [denc,Value.oneCell']) (by decide) (by unfold maxLen;omega) (by omega) (by simp;omega) (wr.heap.size+1) (by simp) ?_);intro gn capn w5 hown1 hgrow hat hlt1;have hB5:Below w3.heap.size w3 w5:=Below.grown (hBj.alloc hsj _) hgrow (by simp;omega) (fun j ej=>(ownBlock_lt hrow2 ej).2);have hK5:KqF 0 wr w5:=(KqF.below ((Below.refl _ wr).alloc (Nat.le_refl _) _)).trans (KqF.of_row (hrow2.alloc _) (by decide) (by decide) hgrow);have hBw5:Below w.heap.size w w5:=hBwq.trans (hB5.mono (by omega));have hD5:Dg d (.slice fa nf fc) (.slice ca Cs.length cc) (.slice da ds.length dc) w5:=⟨(hBw5.block d hdl).trans hD.b⟩;obtain ⟨f0,f1,f2,ff⟩:=hD5.cell)
             go_ret2
             have hP5:Ds w3.heap.size (.slice (some ⟨gn,0,none⟩) (us2.length+1) capn) fin w5:=by
              refine ⟨us2++[(.slice sa tx.length sc,idn,tx)],by rw [← hpf];simp [hus2],?_,?_⟩
              ·rw [denc_snoc,List.length_append]
               exact hown1
              ·intro u hu
               have hk9:∀ g cur,0≤g→wr.heap[g]?=some (Obj.cells cur 9 (0,0))→w5.heap[g]?=some (Obj.cells cur 9 (0,0)):=fun g cur h0=>hK5 g cur 9 h0 (.inl rfl)
               rcases List.mem_append.1 hu with hu | hu
               ·exact row_keep (hco2 u hu) hk9
               ·obtain rfl:=List.mem_singleton.1 hu
                exact row_keep (ownsRow_low htj (Nat.zero_le _)) hk9
             refine ⟨0,0,rfl,grown_trans (grown_of_below (some d) hBw5) (grown_set _ _ _ _),.inr ⟨rfl,rfl,by omega,by omega,H3.out,HE.out,.inl (by rw [HR.out];omega),_,hD5.set2 _,?_⟩⟩
             rw [Int.toNat_natCast,hfin]
             exact (Ds.low hP5 (by omega)).set hD5.b 2 _
   ·have h3I:¬ (tx.length:Int)=(nf:Int):=by omega
    go_enter Tryz.func86,Tryz.ntmps86
    go_wp2_with fail
    go_ret2
    exact ⟨4,0,rfl,hgr,.inl ⟨by decide,hD,hDs,.inl ⟨rfl,rfl,.inr (.inr h3)⟩⟩⟩
end Go.Proofs.YtcmgclckknpecaaGreatDoor
