import Derived.Test.YtcmgclckknpecaaGreatDoorKbc
import Derived.Deep.RegionHeld3
namespace Go.Proofs.YtcmgclckknpecaaGreatDoor
open Go.RowKit
theorem Pl.rns_dc (s:ByteArray):∀ m pos,Pl.rns s m pos=Pl.dcFrom s m pos
 | 0,_=>rfl
 | m+1,pos=>by rw [Pl.rns,Pl.dcFrom,Pl.rns_dc s m]
theorem Pl.dc_bc (s:ByteArray) (h:∀ x∈s.data.toList,x.toNat<128):Pl.dc s=Pl.bc s:=by
 have e:=Pl.en_bc s h
 have:=Pl.dc_en (Pl.bc s) (Pl.bc_ok s h)
 rw [e] at this
 exact this
theorem Pl.lts_bc (s:ByteArray) (h:∀ x∈s.data.toList,x.toNat<128) (F T:Nat):Pl.lts s F T=(Pl.bc s).map fun c=>(c,F,T):=by
 rw [Pl.lts,Pl.rns_dc]
 rw [show Pl.dcFrom s s.size 0=Pl.dc s from rfl,Pl.dc_bc s h]
def Pl.bst (ps:List (ByteArray × ByteArray)) (b:Option Nat):ByteArray × ByteArray:=match b with | none=>(⟨#[]⟩,⟨#[]⟩) | some b=>ps[b]?.getD (⟨#[]⟩,⟨#[]⟩)
def bstI (b:Option Nat):Int:=match b with | none=>-1 | some b=>(b:Int)
set_option maxRecDepth 100000 in
set_option maxHeartbeats 4000000 in
theorem rswap_any (g cap:Nat) (xs:List (Nat × Nat × Nat)) (a ap:Option Addr) (gp capp:Nat) (ps:List (ByteArray × ByteArray)) (w:World) (hC:Cr g 0 xs w) (ha:0<xs.length→a=some ⟨g,0,none⟩) (hg:0<xs.length→g<w.heap.size) (hl:xs.length≤268435456)
  (hap:0<ps.length→ap=some ⟨gp,0,none⟩) (hgp:0<ps.length→gp<w.heap.size) (hP:Prw gp ps w) (hp1:∀ p∈ps,1≤p.1.size∧p.1.size≤1000∧(∀ x∈p.2.data.toList,x.toNat<128)∧p.2.size≤8) (hpl:ps.length≤1000) :
  Calls Tryz.prog 78 #[.slice a xs.length cap,.slice ap ps.length capp] w fun e w'=>∃ v,e=.returned v∧w'.ownsRow w.heap.size 283 3 v (Pl.exs ps xs xs.length 0).length ((Pl.exs ps xs xs.length 0).flatMap enc)∧Below w.heap.size w w':=by
 obtain ⟨i0,hi,hz0,hz1,hz2⟩:=info_parts info283
 obtain ⟨ys,hys⟩:∃ ys,Pl.exs ps xs xs.length 0=ys:=⟨_,rfl⟩
 rw [hys]
 have HYS:Hid (Pl.exs ps xs xs.length 0=ys):=hys
 clear hys
 go_enter Tryz.func78,Tryz.ntmps78
 go_wp2
 go_loopw [5,6] (fun l i wr=>∃ (k m:Nat) (pre:List (Nat × Nat × Nat)),i=.int .i64 (k:Int)∧k≤xs.length∧xs.length≤k+m∧Hid (pre++Pl.exs ps xs m k=ys)∧pre.length≤8*k ∧
  wr.ownsRow w.heap.size 283 3 l pre.length (pre.flatMap enc)∧Below w.heap.size w wr) (fun _ i _=>xs.length - (intOf i).toNat)
 case atStart=>exact ⟨0,xs.length,[],rfl,by omega,by omega,HYS,by simp,World.ownsRow_nil _ _ _ _,Below.refl _ _⟩
 case round =>
  obtain ⟨k,m,pre,rfl,hk,hkm,HX,hp8k,hrow,hB⟩:=hrel
  obtain ⟨w0,hw0⟩:∃ w0,w0=wr:=⟨_,rfl⟩
  subst hw0
  by_cases hlt:k<xs.length
  ·obtain rfl:=ha (by omega)
   have hg':=hg (by omega)
   have hs1:=hB.size
   have hltI:(k:Int)<(xs.length:Int):=by omega
   obtain ⟨⟨L,R⟩,hLR⟩:∃ r,Pl.exAt ps xs k=r:=⟨_,rfl⟩
   have HLR:Hid (Pl.exAt ps xs k=(L,R)):=hLR
   have HL0:Hid (Pl.lgp (Pl.cdx (xs.drop k)) (xs.drop k).length (Pl.bst ps none) (ps.drop 0)=(L,R)):=hLR
   clear hLR
   go_wp2_with fail
   go_loopw [7,8] (fun bv kv wr=>Below w0.heap.size w0 wr∧∃ (b:Option Nat) (q:Nat),bv=.int .i64 (bstI b)∧kv=.int .i64 (q:Int)∧q≤ps.length∧(∀ x,b=some x→x<ps.length)∧Hid (Pl.lgp (Pl.cdx (xs.drop k)) (xs.drop k).length (Pl.bst ps b) (ps.drop q)=(L,R))) (fun _ kv _=>ps.length - (intOf kv).toNat)
   case atStart=>exact ⟨Below.refl _ _,none,0,rfl,rfl,by omega,by simp,HL0⟩
   case round =>
    obtain ⟨h1,b,q,rfl,rfl,hq,hb,HQ⟩:=hrel
    obtain ⟨w1,hw1⟩:∃ w1,w1=wr:=⟨_,rfl⟩
    subst hw1
    have hB1:Below w.heap.size w w1:=hB.trans (h1.mono hs1)
    have hs2:=h1.size
    by_cases hql:q<ps.length
    ·obtain rfl:=hap (by omega)
     have hgp':=hgp (by omega)
     have hqI:(q:Int)<(ps.length:Int):=by omega
     have hP1:=hP.below hB1 hgp
     obtain ⟨p0,p1⟩:=hP1.c q hql
     obtain ⟨hsz1,hsz8,_,_⟩:=hp1 _ (List.getElem_mem hql)
     obtain ⟨⟨pl,pr⟩,hpk⟩:∃ x,ps[q]=x:=⟨_,rfl⟩
     have hd:ps.drop q=(pl,pr) :: ps.drop (q+1):=by rw [← hpk];exact List.drop_eq_getElem_cons hql
     have hbq:Pl.bst ps (some q)=(pl,pr):=by simp [Pl.bst,hql,hpk]
     rw [hpk] at p0 p1 hsz1 hsz8
     simp only at p0 p1 hsz1 hsz8
     obtain ⟨hv,hhv⟩:∃ hv,Pl.bgn (Pl.cdx (xs.drop k)) (xs.drop k).length pl=hv:=⟨_,rfl⟩
     have hQ:=HQ.out
     rw [hd,Pl.lgp] at hQ
     simp only [hhv] at hQ
     have hst:=rstands_any g cap xs k pl w1 (hC.below hB1 fun _=>hg') (by omega) hlt hl (by omega) hv hhv
     have HST:Hid (Calls Tryz.prog 137 #[.slice (some ⟨g,0,none⟩) xs.length cap,.int .i64 (k:Int),.string pl] w1 fun e w'=>e=.returned (.bool hv)∧Below w1.heap.size w1 w'):=hst
     clear hst hhv hd hpk HQ
     cases hv with
     | false =>
      have HQ2:Hid (Pl.lgp (Pl.cdx (xs.drop k)) (xs.drop k).length (Pl.bst ps b) (ps.drop (q+1))=(L,R)):=by
       rw [Bool.and_false,if_neg (by simp)] at hQ;exact hQ
      clear hQ hbq
      go_wp2_with fail
      refine HST.out.mono ?_
      rintro e w2 ⟨rfl,h2⟩
      have h12:Below w0.heap.size w0 w2:=h1.trans (h2.mono hs2)
      go_wp2_with fail
      go_quiet (fail)
      go_wp2_with fail
      exact ⟨⟨below_drewN h12 _,b,q+1,rfl,by go_num,by omega,hb,HQ2⟩,by simp [intOf];omega⟩
     | true =>
      rw [Bool.and_true] at hQ
      cases b with
      | none =>
       have HQ2:Hid (Pl.lgp (Pl.cdx (xs.drop k)) (xs.drop k).length (Pl.bst ps (some q)) (ps.drop (q+1))=(L,R)):=by
        rw [if_pos (show decide ((Pl.bst ps none).1.size<pl.size)=true from decide_eq_true (show 0<pl.size by omega))] at hQ;rw [hbq];exact hQ
       clear hQ hbq
       simp only [bstI]
       go_wp2_with fail
       refine HST.out.mono ?_
       rintro e w2 ⟨rfl,h2⟩
       have h12:Below w0.heap.size w0 w2:=h1.trans (h2.mono hs2)
       go_wp2_with fail
       go_quiet (fail)
       go_wp2_with fail
       exact ⟨⟨below_drewN h12 _,some q,q+1,rfl,by go_num,by omega,by intro x hx;cases hx;exact hql,HQ2⟩,by simp [intOf];omega⟩
      | some x =>
       have hxl:=hb x rfl
       have hxI:(x:Int)<(ps.length:Int):=by omega
       have hx0:¬ (x:Int)<0:=by omega
       obtain ⟨⟨xl,xr⟩,hxk⟩:∃ y,ps[x]=y:=⟨_,rfl⟩
       have hbx:Pl.bst ps (some x)=(xl,xr):=by simp [Pl.bst,hxl,hxk]
       rw [hbx] at hQ
       simp only at hQ
       have hxs:=(hp1 _ (List.getElem_mem hxl)).2.1
       rw [hxk] at hxs
       simp only at hxs
       simp only [bstI]
       have HP1:Hid (∀ w2,Below w1.heap.size w1 w2→w2.cell? ⟨gp,q*2,none⟩=some (.string pl)∧w2.cell? ⟨gp,x*2,none⟩=some (.string xl)):=fun w2 h2=>by
        have e:=(hP1.below h2 fun _=>by omega).c x hxl
        rw [hxk] at e
        exact ⟨(h2.cell (p:=⟨gp,q*2,none⟩) (by show gp<_;omega)).trans p0,e.1⟩
       by_cases hgt:xl.size<pl.size
       ·have HQ2:Hid (Pl.lgp (Pl.cdx (xs.drop k)) (xs.drop k).length (Pl.bst ps (some q)) (ps.drop (q+1))=(L,R)):=by
         rw [if_pos (by simpa using hgt)] at hQ;rw [hbq];exact hQ
        have hgI:(xl.size:Int)<(pl.size:Int):=by omega
        have hgd:decide (xl.size<pl.size)=true:=by simpa using hgt
        clear hQ hbq hbx hxk
        go_wp2_with fail
        refine HST.out.mono ?_
        rintro e w2 ⟨rfl,h2⟩
        have h12:Below w0.heap.size w0 w2:=h1.trans (h2.mono hs2)
        obtain ⟨e0,e1⟩:=HP1.out w2 h2
        go_wp2_with fail
        go_quiet (fail)
        go_wp2_with fail
        exact ⟨⟨below_drewN h12 _,some q,q+1,rfl,by go_num,by omega,by intro x hx;cases hx;exact hql,HQ2⟩,by simp [intOf];omega⟩
       ·have HQ2:Hid (Pl.lgp (Pl.cdx (xs.drop k)) (xs.drop k).length (Pl.bst ps (some x)) (ps.drop (q+1))=(L,R)):=by
         rw [if_neg (by simpa using hgt)] at hQ;rw [hbx];exact hQ
        have hgI:¬ (xl.size:Int)<(pl.size:Int):=by omega
        have hgd:decide (xl.size<pl.size)=false:=by simpa using hgt
        clear hQ hbq hbx hxk
        go_wp2_with fail
        refine HST.out.mono ?_
        rintro e w2 ⟨rfl,h2⟩
        have h12:Below w0.heap.size w0 w2:=h1.trans (h2.mono hs2)
        obtain ⟨e0,e1⟩:=HP1.out w2 h2
        go_wp2_with fail
        go_quiet (fail)
        go_wp2_with fail
        exact ⟨⟨below_drewN h12 _,some x,q+1,rfl,by go_num,by omega,hb,HQ2⟩,by simp [intOf];omega⟩
    ·have hqI:¬ (q:Int)<(ps.length:Int):=by omega
     have hQ:=HQ.out
     rw [List.drop_of_length_le (show ps.length≤q by omega),Pl.lgp] at hQ
     have hrow1:=ownsRow_below hrow h1
     clear HQ HL0
     cases b with
     | none =>
      have hz:(Pl.exAt ps xs k).1.size=0:=by rw [HLR.out,← hQ];rfl
      obtain ⟨m',hm',hcs⟩:=Pl.exs_pass hlt hkm hz
      obtain ⟨⟨c,f,t⟩,hx⟩:∃ x,xs[k]=x:=⟨_,rfl⟩
      obtain ⟨k0,k1,k2⟩:=(hC.below hB1 fun _=>hg').c k hlt
      rw [hx] at hcs k0 k1 k2
      rw [Nat.zero_add] at k0 k1 k2
      simp only at k0 k1 k2
      have HX2:Hid ((pre++[(c,f,t)])++Pl.exs ps xs m' (k+1)=ys):=by
       have:=HX.out;rw [hcs] at this;show _=_;rw [← this];simp
      clear hcs hx hz HX HLR hQ
      simp only [bstI]
      go_wp2_with (at_builtin;go_must (refine wpList_append_lies _ (by rfl) _ _ 203 (by rfl) w.heap.size 283 i0 (.agg #[.int .i64 0,.int .i64 0,.int .i64 0]) 3 24 Tryz.underlying203 hi hz0 hz1 hz2 rfl (by decide) _ pre.length (pre.flatMap enc) (by rfl) (hrow1.alloc _) ⟨w1.heap.size,0,none⟩ 1 1 (enc (c,f,t)) (by rfl) rfl (World.news_of_block (heap_alloc_new w1 _)) (enc_one _) (by decide) (by unfold maxLen;omega) (by omega) (by simp;omega) (w1.heap.size+1) (by simp) ?_);intro gn capn w3 hown1 hgrow hat hlt1;have hB3:Below w.heap.size w w3:=Below.grown (hB1.alloc (by omega) _) hgrow (by simp;omega) fun j ej=>(ownBlock_lt hrow1 ej).2)
      refine ⟨⟨k+1,m',pre++[(c,f,t)],by go_num,by omega,hm',HX2,by simp;omega,?_,hB3⟩,by simp [intOf];omega⟩
      rw [enc_snoc,List.length_append]
      exact hown1
     | some x =>
      have hxl:=hb x rfl
      obtain ⟨p0,p1⟩:=(hP.below hB1 hgp).c x hxl
      obtain ⟨hx1,hx8,hxa,hxr8⟩:=hp1 _ (List.getElem_mem hxl)
      obtain rfl:=hap (by omega)
      have hgp':=hgp (by omega)
      obtain ⟨⟨xl,xr⟩,hxk⟩:∃ y,ps[x]=y:=⟨_,rfl⟩
      have hbx:Pl.bst ps (some x)=(xl,xr):=by simp [Pl.bst,hxl,hxk]
      rw [hbx] at hQ
      have HLR2:Hid (Pl.exAt ps xs k=(xl,xr)):=by rw [hQ];exact HLR.out
      clear HLR hQ hbx
      rw [hxk] at p0 p1 hx1 hx8 hxa hxr8
      simp only at p0 p1 hx1 hx8 hxa hxr8
      have hxI:(x:Int)<(ps.length:Int):=by omega
      have hx0:¬ (x:Int)<0:=by omega
      obtain ⟨m',hm',hcs⟩:=Pl.exs_some hlt hkm (show (Pl.exAt ps xs k).1.size≠0 by rw [HLR2.out];show xl.size≠0;omega)
      have hle:=(Pl.exAt_le ps (fun p hp=>(hp1 p hp).2.2.2) xs k hk).1
      rw [HLR2.out] at hm' hcs hle
      simp only at hm' hcs hle
      rw [Pl.lts_bc xr hxa] at hcs
      obtain ⟨z,hz⟩:∃ z,xl.size=z:=⟨_,rfl⟩
      rw [hz] at hm' hcs hle hx1 hx8
      obtain ⟨F,hF⟩:∃ F,Pl.frx xs k=F:=⟨_,rfl⟩
      obtain ⟨T,hT⟩:∃ T,Pl.tox xs (k+z - 1)=T:=⟨_,rfl⟩
      rw [hF,hT] at hcs
      have HX2:Hid ((pre++(Pl.bc xr).map fun c=>(c,F,T))++Pl.exs ps xs m' (k+z)=ys):=by
       have:=HX.out;rw [hcs] at this;show _=_;rw [← this];simp
      have HNB:Hid (∀ (c:Nat) W,(World.alloc W (.cells #[.int .i64 (c:Int),.int .i64 (F:Int),.int .i64 (T:Int)] 283)).heap[W.heap.size]?=some (.cells #[.int .i64 (c:Int),.int .i64 (F:Int),.int .i64 (T:Int)] 283 (0,0))):=fun c W=>heap_alloc_new W _
      obtain ⟨q,hq'⟩:∃ q,k+z - 1=q:=⟨_,rfl⟩
      have hCK:∀ W,Below w.heap.size w W→W.cell? ⟨g,k*3+1,none⟩=some (.int .i64 (F:Int))∧W.cell? ⟨g,q*3+2,none⟩=some (.int .i64 (T:Int)):=fun W hW=>by
       have hCw:=hC.below hW fun _=>hg'
       have k1:=(hCw.c k hlt).2.1
       have k2:=(hCw.c q (by omega)).2.2
       rw [show (xs[k]).2.1=F by rw [← hF];simp [Pl.frx,hlt],Nat.zero_add] at k1
       rw [show (xs[q]'(by omega)).2.2=T by rw [← hT,hq'];simp [Pl.tox,show q<xs.length by omega],Nat.zero_add] at k2
       exact ⟨k1,k2⟩
      have HCK:Hid (∀ W,Below w.heap.size w W→W.cell? ⟨g,k*3+1,none⟩=some (.int .i64 (F:Int))∧W.cell? ⟨g,q*3+2,none⟩=some (.int .i64 (T:Int))):=hCK
      have hzI:(xl.size:Int)=(z:Int):=by omega
      have hkz:(k:Int)+(z:Int)≤268435456:=by omega
      have hw1:IntKind.i64.wrap ((k:Int)+(z:Int))=(k:Int)+(z:Int):=by rw [IntKind.wrap_i64];omega
      have hw2:IntKind.i64.wrap ((k:Int)+(z:Int) - 1)=(k:Int)+(z:Int) - 1:=by rw [IntKind.wrap_i64];omega
      have h3:(k:Int)+(z:Int) - 1<(xs.length:Int):=by omega
      have h4:(0:Int)≤(k:Int)+(z:Int) - 1:=by omega
      have h5:((k:Int)+(z:Int) - 1).toNat=q:=by omega
      have h6:(k:Int)+(z:Int)≤(xs.length:Int):=by omega
      have h7:(1:Int)≤(k:Int)+(z:Int):=by omega
      have h8:(0:Int)<(k:Int)+(z:Int):=by omega
      have h9:(k:Int)+(z:Int)<(xs.length:Int)+1:=by omega
      have h10:¬ (k:Int)+(z:Int)<1:=by omega
      clear hcs hF hT hCK HX hxk hxa
      simp only [bstI]
      go_wp2_with fail
      try rw [hzI]
      go_loopw [5,12] (fun l kv wr=>∃ j:Nat,kv=.int .i64 (j:Int)∧j≤xr.size∧wr.ownsRow w.heap.size 283 3 l (pre++((Pl.bc xr).take j).map fun c=>(c,F,T)).length ((pre++((Pl.bc xr).take j).map fun c=>(c,F,T)).flatMap enc)∧Below w.heap.size w wr) (fun _ kv _=>xr.size - (intOf kv).toNat)
      case atStart=>exact ⟨0,rfl,by omega,by simpa using hrow1,hB1⟩
      case round =>
       obtain ⟨j,rfl,hj,hrow2,hB2⟩:=hrel
       obtain ⟨w2,hw2'⟩:∃ w2,w2=wr:=⟨_,rfl⟩
       subst hw2'
       have hs3:=hB2.size
       obtain ⟨k1,k2⟩:=HCK.out w2 hB2
       by_cases hjl:j<xr.size
       ·have hjI:(j:Int)<(xr.size:Int):=by omega
        obtain ⟨h',he⟩:=bc_at xr j hjl
        obtain ⟨acc,hacc⟩:∃ acc,(pre++((Pl.bc xr).take j).map fun c=>(c,F,T))=acc:=⟨_,rfl⟩
        have HT:Hid ((pre++((Pl.bc xr).take (j+1)).map fun c=>(c,F,T))=acc++[((xr[j]).toNat,F,T)]):=by
         show _=_
         rw [List.take_succ_eq_append_getElem h',List.map_append,he,← List.append_assoc,hacc];rfl
        have hal:acc.length≤8*k+8:=by rw [← hacc,List.length_append,List.length_map,List.length_take];omega
        rw [hacc] at hrow2
        have hc255:=UInt8.toNat_lt xr[j]
        have hcw:IntKind.i64.wrap ((xr[j]).toNat:Int)=((xr[j]).toNat:Int):=by rw [IntKind.wrap_i64];omega
        clear hacc he
        go_wp2_with fail
        go_region_held3 (fun w'=>w'.cell? ⟨g,k*3+1,none⟩=some (.int .i64 (F:Int))∧w'.cell? ⟨g,q*3+2,none⟩=some (.int .i64 (T:Int))) (first | go_keep | exact HCK.out _ hB3) ((refine step_append_lies _ (by rfl) _ _ 203 (by rfl) w.heap.size 283 i0 (.agg #[.int .i64 0,.int .i64 0,.int .i64 0]) 3 24 Tryz.underlying203 hi hz0 hz1 hz2 rfl (by decide) _ acc.length (acc.flatMap enc) (by rfl) ((hrow2.alloc _).drew) ⟨w2.heap.size,0,none⟩ 1 1 (enc ((xr[j]).toNat,F,T)) (by rfl) rfl (World.news_of_block (cs:=#[.int .i64 ((xr[j]).toNat:Int),.int .i64 (F:Int),.int .i64 (T:Int)]) (t:=283) (fr:=(0,0)) (HNB.out (xr[j]).toNat w2)) (enc_one _) (by decide) (by unfold maxLen;omega) (by omega) (by simp;omega) (w2.heap.size+1) (by simp) ?_;intro gn capn w3 hown1 hgrow hat hlt1;have hB3:Below w.heap.size w w3:=Below.grown ((hB2.alloc (by omega) _).drew) hgrow (by simp;omega) fun j ej=>(ownBlock_lt hrow2 ej).2))
        go_wp2_with fail
        refine ⟨⟨j+1,by go_num,by omega,?_,hB3⟩,by simp [intOf];omega⟩
        rw [HT.out,enc_snoc,List.length_append]
        exact hown1
       ·have hjI:¬ (j:Int)<(xr.size:Int):=by omega
        rw [List.take_of_length_le (by rw [bc_len];omega)] at hrow2
        go_wp2_with fail
        refine ⟨⟨k+z,m',_,by go_num,by omega,hm',HX2,?_,hrow2,hB2⟩,by simp [intOf];omega⟩
        rw [List.length_append,List.length_map,bc_len]
        omega
  ·have hltI:¬ (k:Int)<(xs.length:Int):=by omega
   have hx:pre=ys:=by have:=HX.out;rw [Pl.exs_nil hlt] at this;simpa using this
   subst hx
   go_wp2
   go_ret
   exact ⟨_,rfl,hrow,hB⟩
end Go.Proofs.YtcmgclckknpecaaGreatDoor
