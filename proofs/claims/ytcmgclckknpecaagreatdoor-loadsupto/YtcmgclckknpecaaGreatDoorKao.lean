import Derived.Test.YtcmgclckknpecaaGreatDoorKak
import Derived.Test.YtcmgclckknpecaaGreatDoorKal
import Derived.Test.YtcmgclckknpecaaGreatDoorKan
import Derived.Lib.AtoiAllCases
import Derived.Test.YtcmgclckknpecaaGreatDoorKaj
namespace Go.Proofs.YtcmgclckknpecaaGreatDoor
open Go.RowKit Go.Shelf
theorem unq_false (s:ByteArray) (hsz:s.size≤1000000000000) (w:World) (hT:Tbr w) (hU:Lib.Utf8Tabs 5 6 w):Calls Tryz.prog 357 #[.string s,.bool false] w fun e w'=>UnO false s e∧Below w.heap.size w w':=by
 by_cases h0:s.size<2
 ·exact unq_small false s w hT h0
 have h2:2≤s.size:=by omega
 obtain ⟨c,hc⟩:∃ c,(s[0]'(by omega)).toNat=c:=⟨_,rfl⟩
 by_cases h96:c=96
 ·subst h96;exact unq_backf s hsz w hT h2 hc
 by_cases h34:c=34
 ·subst h34;exact unq_str34f s hsz w hT hU h2 hc
 by_cases h39:c=39
 ·subst h39;exact unq_str39f s hsz w hT hU h2 hc
 exact unq_other false s w hT h2 c hc h96 h34 h39
theorem unq_true (s:ByteArray) (hsz:s.size≤1000000000000) (w:World) (hT:Tbr w) (hU:Lib.Utf8Tabs 5 6 w):Calls Tryz.prog 357 #[.string s,.bool true] w fun e w'=>UnO true s e∧Below w.heap.size w w':=by
 by_cases h0:s.size<2
 ·exact unq_small true s w hT h0
 have h2:2≤s.size:=by omega
 obtain ⟨c,hc⟩:∃ c,(s[0]'(by omega)).toNat=c:=⟨_,rfl⟩
 by_cases h96:c=96
 ·subst h96;exact unq_backt s hsz w hT h2 hc
 by_cases h34:c=34
 ·subst h34;exact unq_str34t s hsz w hT hU h2 hc
 by_cases h39:c=39
 ·subst h39;exact unq_str39t s hsz w hT hU h2 hc
 exact unq_other true s w hT h2 c hc h96 h34 h39
structure QpO (s:ByteArray) (e:Ending):Prop where
 ex:∃ (o:ByteArray) (er:Value),e=.returned (.tuple #[.string o,er])∧((∃ te pe,er=.iface te pe)∨(er=.nilIface∧1≤o.size∧o.size≤s.size))
theorem qpref_any (s:ByteArray) (hsz:s.size≤1000000000000) (w:World) (hT:Tbr w) (hU:Lib.Utf8Tabs 5 6 w):Calls Tryz.prog 282 #[.string s] w fun e w'=>QpO s e∧Below w.heap.size w w':=by
 have hc:=unq_false s hsz w hT hU
 clear hT hU
 go_enter Tryz.func282,Tryz.ntmps282
 go_wp2_with fail
 refine hc.mono ?_
 rintro e w1 ⟨⟨o,r,er,rfl,-,ho⟩,hb⟩
 have Ho:Hid ((∃ te pe,er=.iface te pe)∨(er=.nilIface∧1≤o.size∧o.size≤s.size)):=by
  rcases ho with h | ⟨h,k⟩
  ·exact .inl h
  ·exact .inr ⟨h,k rfl⟩
 clear ho
 go_wp2_with fail
 go_ret2
 exact ⟨⟨o,er,rfl,Ho.out⟩,hb⟩
structure UtO (s:ByteArray) (e:Ending):Prop where
 ex:∃ (o:ByteArray) (er:Value),e=.returned (.tuple #[.string o,er])
theorem unquote_any (s:ByteArray) (hsz:s.size≤1000000000000) (w:World) (hT:Tbr w) (hU:Lib.Utf8Tabs 5 6 w):Calls Tryz.prog 283 #[.string s] w fun e w'=>UtO s e∧Below w.heap.size w w':=by
 have hc:=unq_true s hsz w hT hU
 have HT:Hid (Tbr w):=hT
 clear hT hU
 go_enter Tryz.func283,Tryz.ntmps283
 go_wp2_with fail
 refine hc.mono ?_
 rintro e w1 ⟨⟨o,r,er,rfl,-,-⟩,hb⟩
 have HB:Hid (Below w.heap.size w w1):=hb
 obtain ⟨te,pe,he⟩:=(HT.out.below hb).s
 clear hb
 by_cases hr:r.size=0
 ·have hrI:¬ (0:Int)<(r.size:Int):=by omega
  go_wp2_with fail
  go_ret2
  exact ⟨⟨o,er,rfl⟩,HB.out⟩
 ·have hrI:(0:Int)<(r.size:Int):=by omega
  go_wp2_with fail
  go_quiet (fail)
  go_wp2_with fail
  go_ret2
  exact ⟨⟨_,_,rfl⟩,below_drewN HB.out _⟩
structure AtO (e:Ending):Prop where
 ex:∃ (v:Int) (er:Value),e=.returned (.tuple #[.int .i64 v,er])∧((∃ te pe,er=.iface te pe)∨(er=.nilIface∧(Lit.int .i64 v).wf=true))
theorem atoi_b (s:ByteArray) (w:World) (hs:s.size≤4294967281) (hT:Tbr w):Calls Tryz.prog 182 #[.string s] w fun e w'=>AtO e∧Below w.heap.size w w':=by
 cases h:Lib.atoiAll s.data.toList with
 | ok v =>
  have hv:=Lib.atoiAll_bounds h
  have hwf:(Lit.int .i64 v).wf=true:=by simp [Lit.wf,IntKind.min,IntKind.max,IntKind.signed,IntKind.bits];omega
  refine (Any.strconv_Atoi_ok lays172 s (by omega) v h w).mono ?_
  rintro e w' ⟨rfl,rfl | ⟨t,rfl⟩⟩
  ·exact ⟨⟨v,_,rfl,.inr ⟨rfl,hwf⟩⟩,Below.refl _ _⟩
  ·exact ⟨⟨v,_,rfl,.inr ⟨rfl,hwf⟩⟩,Joins.below_bytesWorld _ w _ t (Nat.le_refl _)⟩
 | «syntax» =>
  obtain ⟨te,pe,he⟩:=hT.s
  refine (Any.strconv_Atoi_syntax lays172 s (by omega) h _ w he (.inr ⟨te,pe,rfl⟩)).mono ?_
  rintro e w' ⟨N,rfl,_,_,hb⟩
  exact ⟨⟨0,_,rfl,.inl ⟨_,_,rfl⟩⟩,hb⟩
 | range =>
  obtain ⟨te,pe,he⟩:=hT.r
  refine (Any.strconv_Atoi_range lays172 s (by omega) h _ w he (.inr ⟨te,pe,rfl⟩)).mono ?_
  rintro e w' ⟨N,rfl,_,_,hb⟩
  exact ⟨⟨_,_,rfl,.inl ⟨_,_,rfl⟩⟩,hb⟩
theorem trimp_le (s p:ByteArray):(ByteArray.mk (Lib.trimPrefix s.data.toList p.data.toList).toArray).size≤s.size:=by
 show (Lib.trimPrefix s.data.toList p.data.toList).toArray.size≤s.data.size
 rw [← Array.length_toList,List.size_toArray]
 unfold Lib.trimPrefix
 split <;> simp
structure RtO (s:ByteArray) (w:World) (e:Ending) (w':World):Prop where
 ex:∃ (v:Value) (tx:List ByteArray),e=.returned v∧w'.ownsRow w.heap.size 9 1 v tx.length (tx.map .string)∧tx.length≤s.size∧Below w.heap.size w w'
set_option maxRecDepth 100000 in
set_option maxHeartbeats 4000000 in
theorem readTexts_any (s:ByteArray) (hsz:s.size≤1000000000000) (w:World) (hT:Tbr w) (hU:Lib.Utf8Tabs 5 6 w):Calls Tryz.prog 183 #[.string s] w fun e w'=>RtO s w e w':=by
 obtain ⟨i0,hi,hz0,hz1,hz2⟩:=info_parts info9
 have HT:Hid (Tbr w):=hT
 have HU:Hid (Lib.Utf8Tabs 5 6 w):=hU
 clear hT hU
 go_enter Tryz.func183,Tryz.ntmps183
 go_wp2_with fail
 go_loopw [0,3] (fun v0 v3 wr=>∃ (t:ByteArray) (tx:List ByteArray),v0=.string t∧t.size+tx.length≤s.size∧Hid (wr.ownsRow w.heap.size 9 1 v3 tx.length (tx.map .string))∧Hid (Below w.heap.size w wr)) (fun v0 _ _=>match v0 with | .string r=>r.size | _=>0)
 case atStart=>exact ⟨s,[],rfl,by simp,World.ownsRow_nil _ _ _ _,Below.refl _ _⟩
 case round =>
  obtain ⟨t,tx,rfl,hl,HR,HB⟩:=hrel
  have hc1:=qpref_any t (by omega) wr (HT.out.below HB.out) (Utf8Tabs_below HU.out HB.out)
  go_wp2_with fail
  refine hc1.mono ?_
  rintro e w1 ⟨⟨o,er,rfl,ho⟩,hb1⟩
  have HB1:Hid (Below w.heap.size w w1):=HB.out.trans (hb1.mono HB.out.size)
  have HR1:Hid (w1.ownsRow w.heap.size 9 1 u3 tx.length (tx.map .string)):=ownsRow_below HR.out hb1
  clear hb1 hc1 HR HB
  rcases ho with ⟨te,pe,rfl⟩ | ⟨rfl,ho1,ho2⟩
  ·go_wp2_with fail
   go_ret
   exact ⟨⟨_,tx,rfl,HR1.out,by omega,HB1.out⟩⟩
  ·have hc2:=unquote_any o (by omega) w1 (HT.out.below HB1.out) (Utf8Tabs_below HU.out HB1.out)
   go_wp2_with fail
   refine hc2.mono ?_
   rintro e w2 ⟨⟨x,er,rfl⟩,hb2⟩
   have HB2:Hid (Below w.heap.size w w2):=HB1.out.trans (hb2.mono HB1.out.size)
   have hrow2:w2.ownsRow w.heap.size 9 1 u3 tx.length (tx.map .string):=ownsRow_below HR1.out hb2
   have hsz2:=HB2.out.size
   have hoI:(o.size:Int)≤(t.size:Int):=by omega
   clear hb2 hc2 HR1
   go_wp2_with (at_builtin;go_must (refine wpList_append_lies _ (by rfl) _ _ 63 (by rfl) w.heap.size 9 i0 (.string ⟨#[]⟩) 1 16 Tryz.underlying63 hi hz0 hz1 hz2 rfl (by decide) _ tx.length (tx.map .string) (by rfl) (hrow2.alloc _) ⟨w2.heap.size,0,none⟩ 1 1 [.string x] (by rfl) rfl (World.news_of_block (heap_alloc_new w2 _)) (by simp [Value.oneCell']) (by decide) (by unfold maxLen;omega) (by omega) (by simp;omega) (w2.heap.size+1) (by simp) ?_);intro g2 cap w3 hown hgrow hat hlt2)
   have hge:∀ y,u3.ownBlock=some y→w.heap.size≤y:=fun y e=>(ownBlock_lt hrow2 e).2
   have HB3:Hid (Below w.heap.size w w3):=(HB2.out.alloc hsz2 _).grown hgrow (by simp;omega) hge
   have HR3:Hid (w3.ownsRow w.heap.size 9 1 (.slice (some ⟨g2,0,none⟩) (tx.length+1) cap) (tx++[x]).length ((tx++[x]).map .string)):=by
    show World.ownsRow _ _ _ _ _ _ _
    rw [List.length_append,List.map_append]
    exact hown
   have ht1:=trimp_le (t.extract o.size t.size) ⟨#[32]⟩
   rw [Lib.size_rest] at ht1
   obtain ⟨y,hy⟩:∃ y,y=ByteArray.mk (Lib.trimPrefix (t.extract o.size t.size).data.toList (ByteArray.mk #[32]).data.toList).toArray:=⟨_,rfl⟩
   rw [← hy] at ht1
   have hc3:=trimp_any (t.extract o.size t.size) ⟨#[32]⟩ w3
   rw [← hy] at hc3
   refine hc3.mono ?_
   rintro e w4 ⟨rfl,rfl⟩
   clear hown hgrow hat hge hrow2 hc3 hy
   go_wp2_with fail
   go_roundw
   case rel=>exact ⟨y,tx++[x],rfl,by simp;omega,HR3,HB3⟩
   case measure=>show y.size<t.size;omega
end Go.Proofs.YtcmgclckknpecaaGreatDoor
namespace Go.Proofs.YtcmgclckknpecaaGreatDoor
open Go.RowKit Go.Maps
structure DcO (y:Nat) (D:DataW Value) (n:Nat) (kl:Lit) (w:World) (e:Ending) (w':World):Prop where
 ex:∃ β,e=.returned (.bool β)∧w'.ownsMap Tryz.prog 3 slE y n (D.del kl)∧w.grownBy w' (some y)
set_option maxRecDepth 100000 in
theorem dropc_any (y p n:Nat) (D:DataW Value) (s:ByteArray) (id:Int) (w:World) (hown:w.ownsMap Tryz.prog 3 slE y n D) (hp:w.cell? ⟨p,0,none⟩=some (.int .i64 id)) (hid:(Lit.int .i64 id).wf=true) :
  Calls Tryz.prog 314 #[.string s,.map (some y),.pointer (some ⟨p,0,none⟩)] w fun e w'=>DcO y D n (.int .i64 id) w e w':=by
 go_enter Tryz.func314,Tryz.ntmps314
 go_wp2_with (first
  | (at_delete;refine wpList_delete_own _ rfl _ _ 337 3 rfl 55 keyI Tryz.underlying337 _ y n D rfl hown _ _ rfl (klI hid) ?_;intro w1 hown1 hturn1)
  | (at_len;refine wpList_len_own _ rfl _ 337 rfl 3 55 Tryz.underlying337 _ y n _ rfl hown1 ?_)
  | go_in)
 go_ret
 exact ⟨_,rfl,hown1,hturn1.grown⟩
structure DfL (B:Nat) (F X Y:Nat→Prop) (N x p:Nat) (id:Int) (w wr:World) (left:Lit→Bool) (cnt n:Nat) (D:DataW Value):Prop where
 r:wr.ranges Tryz.prog 9 mpE x w.heap.size n D left cnt
 n:n≤N
 g:Gl B X Y N wr
 m:Mv B F X Y w wr
 b:wr.heap[p]?=some (.cells #[.int .i64 id] 3 (0,0))
theorem keyS_inv (key:Value) (kl:Lit) (h:keyOf Tryz.prog 9 key=some kl):∃ x,key=.string x:=by
 cases key <;> simp [keyOf,mapKey,Tryz.underlying9] at h
 exact ⟨_,rfl⟩
theorem mpE_inv (v:Value) (y:DataW Value × List MemPlace) (h:mpE v=some y):∃ c,v=.map c:=by
 cases v <;> simp [mpE] at h
 exact ⟨_,rfl⟩
theorem cell_of_block {w:World} {p:Nat} {v:Value} {t:TypeId} (h:w.heap[p]?=some (.cells #[v] t (0,0))):w.cell? ⟨p,0,none⟩=some v:=by simp [World.cell?,h]
set_option maxRecDepth 100000 in
set_option maxHeartbeats 2000000 in
theorem delfunc_any (B:Nat) (F X Y:Nat→Prop) (N x p:Nat) (id:Int) (w:World) (hG:Gl B X Y N w) (hx:X x) (hb:w.heap[p]?=some (.cells #[.int .i64 id] 3 (0,0))) (hid:(Lit.int .i64 id).wf=true) :
  Calls Tryz.prog 313 #[.map (some x),.func (.func 314) #[] #[.pointer (some ⟨p,0,none⟩)]] w fun e w'=>e=.returned (.tuple #[])∧Gl B X Y N w'∧Mv B F X Y w w':=by
 obtain ⟨DX,DY,hI⟩:=hG.ex
 obtain ⟨_,n,hn,hown⟩:=hI.x x hx
 clear hI DY
 go_enter Tryz.func313,Tryz.ntmps313
 go_wp2_with (first
  | (at_range;refine wpList_range_own _ rfl _ 173 rfl 9 337 keyS Tryz.underlying173 _ x n _ rfl hown ?_;intro w0 hrg0 hg0 hs0)
  | go_in)
 go_frame
 have hB0:Below w.heap.size w w0:=⟨hg0.os,hg0.tape,hg0.output,hg0.size,fun k hk=>hg0.block k hk (by simp)⟩
 have hpl:=(Array.getElem?_eq_some_iff.1 hb).1
 go_loopw [8] (fun _ wr=>∃ left cnt n D,DfL B F X Y N x p id w wr left cnt n D) (fun _ wr=>wr.rangeLeft x w.heap.size)
 case atStart=>exact ⟨_,_,_,_,hrg0,hn,hG.below hB0,Mv.below hB0,(hB0.block p hpl).trans hb⟩
 case round =>
  obtain ⟨left,cnt,n,D,hr⟩:=hrel
  have hrg:=hr.r
  go_wp2_with (first
   | (at_next;refine wpList_next_ranges _ rfl _ rfl 9 keyS mpE Value.string Value.map keyS_inv mpE_inv x w.heap.size n _ _ _ rfl hrg ?_ ?_)
   | go_in)
  ·intro _ hl0
   go_wp2
   go_end0
   exact ⟨rfl,hr.g,hr.m⟩
  ·intro s c kl yd yp w1 cnt1 hkey hlk hRv hat hrg1 hlt hg1 hs1 hen
   have hyd:yd=.held (.map c):=mpE_held hRv
   have hrb:∃ sn sc c0,wr.heap[w.heap.size]?=some (.mapIter (some x) sn sc c0):=by
    obtain ⟨es,cl,sn,sc,c0,_,_,_,_,q,_⟩:=hrg
    exact ⟨_,_,_,q⟩
   obtain ⟨sn,sc,c0,hrb⟩:=hrb
   have hG1:Gl B X Y N w1:=hr.g.far hg1 (fun q=>by have:=hG.x_lt q;omega) (fun q=>by have:=hG.y_lt q;omega) (fun c f q=>by rw [hrb] at q;cases q)
   have hM1:Mv B F X Y w w1:=hr.m.andThen hg1 fun i e=>by cases e;exact .inl (Nat.le_refl _)
   have hb1:w1.heap[p]?=some (.cells #[.int .i64 id] 3 (0,0)):=(hg1.block p (Nat.lt_of_lt_of_le hpl hr.m.size) (by simp;omega)).trans hr.b
   obtain ⟨y,rfl,hy⟩:∃ y,c=some y∧Y y:=by
    obtain ⟨DX',DY',hI'⟩:=hG1.ex
    obtain ⟨_,n',_,ho'⟩:=hI'.x x hx
    have hD:=ownsMap_fun hrg1.owns ho'
    rcases hI'.xk x kl hx with q | ⟨y,q,hy⟩
    ·have e1:=hat nlM
     have e2:=hat nlS
     rw [hD,q] at e1 e2
     rw [← e2] at e1
     simp at e1
    ·have e1:=hat nlM
     rw [hD,q,hyd] at e1
     injection e1 with e1
     injection e1 with e1
     exact ⟨y,e1.symm,hy⟩
   obtain ⟨DX',DY',hI1⟩:=hG1.ex
   obtain ⟨_,ny,hny,hoy⟩:=hI1.y y hy
   have hcl:=dropc_any y p ny (DY' y) s id w1 hoy (cell_of_block hb1) hid
   have hyw:=hG.y_lt hy
   have hxy:x≠y:=fun e=>by subst e;exact hI1.d _ hx hy
   have hpy:p≠y:=fun e=>by
    subst e
    obtain ⟨es,c,q,_⟩:=hoy
    rw [hb1] at q
    cases q
   have HCL:Hid (Calls Tryz.prog 314 #[.string s,.map (some y),.pointer (some ⟨p,0,none⟩)] w1 fun e w'=>DcO y (DY' y) ny (.int .i64 id) w1 e w'):=hcl
   clear hcl
   go_wp2_with fail
   refine HCL.out.mono ?_
   rintro e w2 hO
   obtain ⟨β,rfl,ho2,hg2⟩:=hO.ex
   have hG2:Gl B X Y N w2:=by
    obtain ⟨v,hv,_⟩:=hI1.yk y (.int .i64 id) hy
    exact ⟨DX',_,hI1.set_y (w1:=w1) hy (Nat.le_refl _) hv ⟨rfl,rfl,rfl,Nat.le_refl _,fun _ _ _=>rfl⟩ hg2 ho2 hny (fun kl hk=>atKey_del_other hk _) (atKey_del_same _) (Gs.nil _ _) (by simp [Value.ownBlock])⟩
   have hM2:Mv B F X Y w w2:=hM1.andThen hg2 fun i e=>by cases e;exact .inr (.inr (.inr (.inl hy)))
   have hrg2:=hrg1.kept hg2 (by simpa using hxy) (by simp;omega)
   have hb2:w2.heap[p]?=some (.cells #[.int .i64 id] 3 (0,0)):=(hg2.block p (Nat.lt_of_lt_of_le hpl hM1.size) (by simpa using hpy)).trans hb1
   have hrn:=hr.n
   clear hO hI1 hoy HCL hG1 hM1 hb1 hrg1 hr
   cases β with
   | false =>
    go_wp2_with fail
    go_roundw
    case rel=>exact ⟨_,cnt1,n,D,hrg2,hrn,hG2,hM2,hb2⟩
    case measure=>rw [hrg2.left_eq,hrg.left_eq];exact hlt
   | true =>
    go_wp2_with (first
     | (at_delete;refine wpList_delete_ranges _ rfl _ _ 173 9 rfl 337 keyS Tryz.underlying173 _ x w.heap.size n _ _ _ rfl hrg2 _ _ rfl hkey ?_;intro w3 cnt3 hrg3 hle hturn;go_frame)
     | go_in)
    rw [strike_twice] at hrg3
    go_roundw
    case rel =>
     refine ⟨_,cnt3,n,_,hrg3,hrn,?_,hM2.andThen hturn.grown fun i e=>by cases e;exact .inr (.inr (.inl hx)),(hturn.grown.block p (Nat.lt_of_lt_of_le hpl hM2.size) ?_).trans hb2⟩
     ·obtain ⟨DX2,DY2,hI2⟩:=hG2.ex
      obtain ⟨_,n',_,ho'⟩:=hI2.x x hx
      have hD:=ownsMap_fun hrg2.owns ho'
      refine ⟨_,DY2,hI2.set_x hx (Nat.le_refl _) hturn.grown hrg3.owns hrn fun kl'=>?_⟩
      by_cases hk:kl'=kl
      ·subst hk
       exact .inl fun z=>atKey_del_same z
      ·rw [hD]
       rcases hI2.xk x kl' hx with q | ⟨y',q,hy'⟩
       ·exact .inl fun z=>(atKey_del_other hk z).trans (q z)
       ·exact .inr ⟨y',fun z=>(atKey_del_other hk z).trans (q z),hy'⟩
     ·intro e
      injection e with e
      subst e
      obtain ⟨_,es,c,q⟩:=hG2.x_map hx
      rw [hb2] at q
      cases q
    case measure=>rw [hrg3.left_eq,hrg.left_eq];omega
set_option maxRecDepth 100000 in
theorem ixdrop_any (B:Nat) (F X Y:Nat→Prop) (N x:Nat) (id:Int) (w:World) (hG:Gl B X Y N w) (hx:X x) (hid:(Lit.int .i64 id).wf=true) :
  Calls Tryz.prog 229 #[.map (some x),.int .i64 id] w fun e w'=>e=.returned (.tuple #[])∧Gl B X Y N w'∧Mv B F X Y w w':=by
 have hBa:Below w.heap.size w (w.alloc (.cells #[.int .i64 id] 3)):=(Below.refl _ w).alloc (Nat.le_refl _) _
 have HDF:Hid (Calls Tryz.prog 313 #[.map (some x),.func (.func 314) #[] #[.pointer (some ⟨w.heap.size,0,none⟩)]] (w.alloc (.cells #[.int .i64 id] 3)) fun e w'=>e=.returned (.tuple #[])∧Gl B X Y N w'∧Mv B F X Y (w.alloc (.cells #[.int .i64 id] 3)) w') :=
  delfunc_any B F X Y N x w.heap.size id _ (hG.below hBa) hx (heap_alloc_new w _) hid
 go_enter Tryz.func229,Tryz.ntmps229
 go_wp2_with fail
 refine HDF.out.mono ?_
 rintro e w1 ⟨rfl,h1,h2⟩
 go_wp2_with fail
 go_end0
 exact ⟨rfl,h1,(Mv.below hBa).trans h2 (fun _ q=>.inl q) (fun _ q=>.inl q) (fun _ q=>.inl q)⟩
end Go.Proofs.YtcmgclckknpecaaGreatDoor
namespace Go.Proofs.YtcmgclckknpecaaGreatDoor
open Go.RowKit
structure Pn (pb:Nat) (s:ByteArray) (a:Nat) (bad:Int) (l:Value) (w:World):Prop where
 c0:w.cell? ⟨pb,0,none⟩=some (.string s)
 c1:w.cell? ⟨pb,1,none⟩=some (.int .i64 (a:Int))
 c2:w.cell? ⟨pb,2,none⟩=some (.int .i64 bad)
 c3:w.cell? ⟨pb,3,none⟩=some l
 fz:∀ o,w.frozen? ⟨pb,o,none⟩=false
 lt:pb<w.heap.size
theorem Pn.of_below {pb:Nat} {s:ByteArray} {a:Nat} {bad:Int} {l:Value} {w w':World} (h:Pn pb s a bad l w) (hb:Below w.heap.size w w'):Pn pb s a bad l w' :=
 ⟨(hb.cell (p:=⟨pb,0,none⟩) h.lt).trans h.c0,(hb.cell (p:=⟨pb,1,none⟩) h.lt).trans h.c1,(hb.cell (p:=⟨pb,2,none⟩) h.lt).trans h.c2,(hb.cell (p:=⟨pb,3,none⟩) h.lt).trans h.c3,fun o=>(hb.frozen (p:=⟨pb,o,none⟩) h.lt).trans (h.fz o),Nat.lt_of_lt_of_le h.lt hb.size⟩
theorem Pn.drewN {pb:Nat} {s:ByteArray} {a:Nat} {bad:Int} {l:Value} {w:World} (h:Pn pb s a bad l w) (n:Nat):Pn pb s a bad l (w.drewN n):=h.of_below (below_drewN (Below.refl _ _) n)
theorem Pn.set1 {pb:Nat} {s:ByteArray} {a:Nat} {bad:Int} {l:Value} {w:World} (h:Pn pb s a bad l w) (b:Nat):Pn pb s b bad l (w.setCell ⟨pb,1,none⟩ (.int .i64 (b:Int))) :=
 ⟨(World.cell?_setCell_other _ _ _ _ (by simp)).trans h.c0,World.cell?_setCell_same _ _ _ h.c1,(World.cell?_setCell_other _ _ _ _ (by simp)).trans h.c2,(World.cell?_setCell_other _ _ _ _ (by simp)).trans h.c3,fun o=>(World.frozen?_setCell _ _ _ _).trans (h.fz o),by simpa using h.lt⟩
theorem Pn.set2 {pb:Nat} {s:ByteArray} {a:Nat} {bad:Int} {l:Value} {w:World} (h:Pn pb s a bad l w) (b:Int):Pn pb s a b l (w.setCell ⟨pb,2,none⟩ (.int .i64 b)) :=
 ⟨(World.cell?_setCell_other _ _ _ _ (by simp)).trans h.c0,(World.cell?_setCell_other _ _ _ _ (by simp)).trans h.c1,World.cell?_setCell_same _ _ _ h.c2,(World.cell?_setCell_other _ _ _ _ (by simp)).trans h.c3,fun o=>(World.frozen?_setCell _ _ _ _).trans (h.fz o),by simpa using h.lt⟩
def badOf (ok:Bool) (a:Nat):Int:=if ok=true then -1 else (a:Int)
set_option maxHeartbeats 1000000 in
theorem fail_new (pb:Nat) (s:ByteArray) (a:Nat) (l:Value) (w:World) (h:Pn pb s a (-1) l w) :
  Calls Tryz.prog 132 #[.pointer (some ⟨pb,0,none⟩)] w fun e w'=>e=.returned (.tuple #[])∧Pn pb s a (a:Int) l w'∧w.grownBy w' (some pb):=by
 have c1:=h.c1
 have c2:=h.c2
 have fz:=h.fz
 go_enter Tryz.func132,Tryz.ntmps132
 go_wp2
 go_end0
 exact ⟨rfl,h.set2 _,grown_set _ _ _ _⟩
set_option maxHeartbeats 1000000 in
theorem fail_old (pb:Nat) (s:ByteArray) (a:Nat) (bad:Int) (hb:0≤bad) (l:Value) (w:World) (h:Pn pb s a bad l w) :
  Calls Tryz.prog 132 #[.pointer (some ⟨pb,0,none⟩)] w fun e w'=>e=.returned (.tuple #[])∧Pn pb s a bad l w'∧w.grownBy w' (some pb):=by
 have c1:=h.c1
 have c2:=h.c2
 have fz:=h.fz
 go_enter Tryz.func132,Tryz.ntmps132
 go_wp2
 go_end0
 exact ⟨rfl,h,World.grownBy.refl _ _⟩
set_option maxHeartbeats 1000000 in
theorem on_old (pb:Nat) (s:ByteArray) (a c:Nat) (bad:Int) (hb:0≤bad) (l:Value) (w:World) (h:Pn pb s a bad l w) :
  Calls Tryz.prog 135 #[.pointer (some ⟨pb,0,none⟩),.int .u8 (c:Int)] w fun e w'=>e=.returned (.bool false)∧Pn pb s a bad l w'∧w.grownBy w' (some pb):=by
 have c0:=h.c0
 have c1:=h.c1
 have c2:=h.c2
 have hd:decide (bad<0)=false:=by simp;omega
 go_enter Tryz.func135,Tryz.ntmps135
 go_wp2_with fail
 go_quiet (fail)
 go_wp2
 go_ret
 exact ⟨rfl,h.drewN _,grown_drewN _ _ _⟩
set_option maxHeartbeats 1000000 in
theorem on_new (pb:Nat) (s:ByteArray) (a c:Nat) (l:Value) (w:World) (_hm:s.size≤80) (ha:a≤s.size) (h:Pn pb s a (-1) l w) :
  Calls Tryz.prog 135 #[.pointer (some ⟨pb,0,none⟩),.int .u8 (c:Int)] w fun e w'=>e=.returned (.bool (Pl.byteIn s c c a))∧Pn pb s a (-1) l w'∧w.grownBy w' (some pb):=by
 have c0:=h.c0
 have c1:=h.c1
 have c2:=h.c2
 by_cases hlt:a<s.size
 ·have hlt':(a:Int)<(s.size:Int):=by omega
  have hbe:=Pl.bt_eq hlt
  obtain ⟨B,hB⟩:∃ B,Pl.byteIn s c c a=B:=⟨_,rfl⟩
  have hq:((s[a].toNat:Int) == (c:Int))=B:=by
   rw [← hB,Pl.byteIn,hbe,Bool.eq_iff_iff];simp;omega
  rw [hB]
  clear hB hbe
  go_enter Tryz.func135,Tryz.ntmps135
  go_wp2_with fail
  go_quiet (fail)
  go_wp2
  go_ret
  exact ⟨rfl,h.drewN _,grown_drewN _ _ _⟩
 ·have hd:decide ((a:Int)<(s.size:Int))=false:=by simp;omega
  have hb:Pl.byteIn s c c a=false:=Pl.byteIn_no (by omega)
  rw [hb]
  clear hb
  go_enter Tryz.func135,Tryz.ntmps135
  go_wp2_with fail
  go_quiet (fail)
  go_wp2
  go_ret
  exact ⟨rfl,h.drewN _,grown_drewN _ _ _⟩
theorem take_new (pb:Nat) (s:ByteArray) (a c:Nat) (ci:Int) (hci:ci=(c:Int)) (l:Value) (w:World) (hm:s.size≤80) (ha:a≤s.size) (h:Pn pb s a (-1) l w) :
  Calls Tryz.prog 74 #[.pointer (some ⟨pb,0,none⟩),.int .u8 ci] w fun e w'=>e=.returned (.tuple #[])∧Pn pb s (Pl.sign s c a).2 (badOf (Pl.sign s c a).1 (Pl.sign s c a).2) l w'∧w.grownBy w' (some pb):=by
 subst hci
 have hon:=fun w h=>on_new pb s a c l w hm ha h
 by_cases hb:Pl.byteIn s c c a=true
 ·have hsg:Pl.sign s c a=(true,a+1):=by simp [Pl.sign,hb]
  have hlt:=(Pl.byteIn_lt hb).1
  rw [hsg]
  rw [hb] at hon
  have HON:Hid (∀ w,Pn pb s a (-1) l w→Calls Tryz.prog 135 #[.pointer (some ⟨pb,0,none⟩),.int .u8 (c:Int)] w fun e w'=>e=.returned (.bool true)∧Pn pb s a (-1) l w'∧w.grownBy w' (some pb)):=hon
  clear hon hb hsg
  go_enter Tryz.func74,Tryz.ntmps74
  go_wp2_with fail
  refine (HON.out _ h).mono ?_
  rintro e w1 ⟨rfl,hr1,hg1⟩
  have c1:=hr1.c1
  have fz:=hr1.fz
  go_wp2
  go_end0
  have e1:((a+1:Nat):Int)=(a:Int)+1:=by omega
  refine ⟨rfl,?_,grown_trans hg1 (grown_set _ _ _ _)⟩
  rw [← e1];exact hr1.set1 _
 ·have hb':Pl.byteIn s c c a=false:=by simpa using hb
  have hsg:Pl.sign s c a=(false,a):=by simp [Pl.sign,hb']
  rw [hsg]
  rw [hb'] at hon
  have HON:Hid (∀ w,Pn pb s a (-1) l w→Calls Tryz.prog 135 #[.pointer (some ⟨pb,0,none⟩),.int .u8 (c:Int)] w fun e w'=>e=.returned (.bool false)∧Pn pb s a (-1) l w'∧w.grownBy w' (some pb)):=hon
  clear hon hb hb' hsg
  go_enter Tryz.func74,Tryz.ntmps74
  go_wp2_with fail
  refine (HON.out _ h).mono ?_
  rintro e w1 ⟨rfl,hr1,hg1⟩
  go_wp2_with fail
  refine (fail_new pb s a l _ hr1).mono ?_
  rintro e w2 ⟨rfl,hr2,hg2⟩
  go_wp2
  go_end0
  exact ⟨rfl,hr2,grown_trans hg1 hg2⟩
theorem take_old (pb:Nat) (s:ByteArray) (a c:Nat) (ci:Int) (hci:ci=(c:Int)) (bad:Int) (hb:0≤bad) (l:Value) (w:World) (h:Pn pb s a bad l w) :
  Calls Tryz.prog 74 #[.pointer (some ⟨pb,0,none⟩),.int .u8 ci] w fun e w'=>e=.returned (.tuple #[])∧Pn pb s a bad l w'∧w.grownBy w' (some pb):=by
 subst hci
 go_enter Tryz.func74,Tryz.ntmps74
 go_wp2_with fail
 refine (on_old pb s a c bad hb l _ h).mono ?_
 rintro e w1 ⟨rfl,hr1,hg1⟩
 go_wp2_with fail
 refine (fail_old pb s a bad hb l _ hr1).mono ?_
 rintro e w2 ⟨rfl,hr2,hg2⟩
 go_wp2
 go_end0
 exact ⟨rfl,hr2,grown_trans hg1 hg2⟩
end Go.Proofs.YtcmgclckknpecaaGreatDoor
namespace Go.Proofs.YtcmgclckknpecaaGreatDoor
open Go.RowKit
def pplc (pb:Nat) (w:World):Nat:=match w.cell? ⟨pb,1,none⟩ with
 | some (.int _ z)=>z.toNat
 | _=>0
theorem pplc_eq {pb:Nat} {s:ByteArray} {a:Nat} {bad:Int} {l:Value} {w:World} (h:Pn pb s a bad l w):pplc pb w=a:=by
 unfold pplc;rw [h.c1];rfl
set_option maxHeartbeats 1000000 in
theorem letters_old (pb:Nat) (s:ByteArray) (a:Nat) (bad:Int) (hb:0≤bad) (l:Value) (w:World) (_hm:s.size≤80) (ha:a≤s.size) (h:Pn pb s a bad l w) :
  Calls Tryz.prog 220 #[.pointer (some ⟨pb,0,none⟩)] w fun e w'=>∃ t,e=.returned (.string t)∧Pn pb s a bad l w'∧w.grownBy w' (some pb):=by
 have c1:=h.c1
 have hd:decide (bad<0)=false:=by simp;omega
 go_enter Tryz.func220,Tryz.ntmps220
 go_wp2
 go_loopw [8] (fun _ wr=>∃ q,wr=w.drewN q) (fun _ _=>0)
 case atStart=>exact ⟨0,rfl⟩
 case round =>
  obtain ⟨q,rfl⟩:=hrel
  have c0:=h.c0
  have c2:=h.c2
  go_wp2_with fail
  go_quiet (fail)
  go_wp2_with fail
  refine (fail_old pb s a bad hb l _ (h.drewN _)).mono ?_
  rintro e w2 ⟨rfl,hr2,hg2⟩
  have d0:=hr2.c0
  have d1:=hr2.c1
  have d2:=hr2.c2
  clear c0 c1 c2
  go_wp2
  go_quiet (fail)
  go_wp2
  go_ret
  exact ⟨_,rfl,hr2.drewN _,grown_trans (grown_drewN _ _ _) (grown_trans hg2 (grown_drewN _ _ _))⟩
end Go.Proofs.YtcmgclckknpecaaGreatDoor
namespace Go.Proofs.YtcmgclckknpecaaGreatDoor
open Go.RowKit
theorem badOf_true (a:Nat):badOf true a = -1:=rfl
theorem badOf_false (a:Nat):badOf false a=(a:Int):=rfl
theorem take_st (pb:Nat) (s:ByteArray) (ok:Bool) (a c:Nat) (ci:Int) (hci:ci=(c:Int)) (l:Value) (w:World) (hm:s.size≤80) (ha:a≤s.size) (h:Pn pb s a (badOf ok a) l w) (o:Bool) (b:Nat) (hr:Pl.thenP (ok,a) (Pl.sign s c)=(o,b)) :
  Calls Tryz.prog 74 #[.pointer (some ⟨pb,0,none⟩),.int .u8 ci] w fun e w'=>e=.returned (.tuple #[])∧Pn pb s b (badOf o b) l w'∧w.grownBy w' (some pb):=by
 cases ok with
 | true =>
  have hr':Pl.sign s c a=(o,b):=hr
  have:=take_new pb s a c ci hci l w hm ha h
  rw [hr'] at this
  exact this
 | false =>
  simp only [Pl.thenP,Bool.false_eq_true,if_false,Prod.mk.injEq] at hr
  obtain ⟨rfl,rfl⟩:=hr
  exact take_old pb s a c ci hci _ (by rw [badOf_false];omega) l w h
theorem on_st (pb:Nat) (s:ByteArray) (ok:Bool) (a c:Nat) (ci:Int) (hci:ci=(c:Int)) (l:Value) (w:World) (hm:s.size≤80) (ha:a≤s.size) (h:Pn pb s a (badOf ok a) l w) (q:Bool) (hq:(ok && Pl.byteIn s c c a)=q) :
  Calls Tryz.prog 135 #[.pointer (some ⟨pb,0,none⟩),.int .u8 ci] w fun e w'=>e=.returned (.bool q)∧Pn pb s a (badOf ok a) l w'∧w.grownBy w' (some pb):=by
 subst hci hq
 cases ok with
 | true=>rw [Bool.true_and];exact on_new pb s a c l w hm ha h
 | false=>rw [Bool.false_and];exact on_old pb s a c _ (by rw [badOf_false];omega) l w h
end Go.Proofs.YtcmgclckknpecaaGreatDoor
namespace Go.Proofs.YtcmgclckknpecaaGreatDoor
open Go.RowKit
def Sb (sb:Nat) (v0 v1 v2 v3 v4:Value) (W:World):Prop:=W.heap[sb]?=some (.cells #[v0,v1,v2,v3,v4] 207 (0,0))
theorem Sb.cell {sb:Nat} {v0 v1 v2 v3 v4:Value} {W:World} (h:Sb sb v0 v1 v2 v3 v4 W):W.cell? ⟨sb,0,none⟩=some v0∧W.cell? ⟨sb,1,none⟩=some v1∧W.cell? ⟨sb,2,none⟩=some v2∧W.cell? ⟨sb,3,none⟩=some v3∧W.cell? ⟨sb,4,none⟩=some v4∧(∀ o,W.frozen? ⟨sb,o,none⟩=false):=by
 unfold Sb at h
 simp [World.cell?,World.frozen?,h]
theorem Sb.lt {sb:Nat} {v0 v1 v2 v3 v4:Value} {W:World} (h:Sb sb v0 v1 v2 v3 v4 W):sb<W.heap.size:=(Array.getElem?_eq_some_iff.1 h).1
theorem Sb.keep {sb:Nat} {v0 v1 v2 v3 v4:Value} {W W':World} {row:Option Nat} (h:Sb sb v0 v1 v2 v3 v4 W) (hg:W.grownBy W' row) (hne:row≠some sb):Sb sb v0 v1 v2 v3 v4 W' :=
 (hg.block sb h.lt (Ne.symm hne)).trans h
theorem heap_set (W:World) (b o:Nat) (v:Value) (cs:Array Value) (t:TypeId) (h:W.heap[b]?=some (.cells cs t (0,0))):(W.setCell ⟨b,o,none⟩ v).heap[b]?=some (.cells (cs.setIfInBounds o v) t (0,0)):=by
 obtain ⟨hlt,hk⟩:=Array.getElem?_eq_some_iff.1 h
 show (W.heap.modify b _)[b]?=_
 rw [Array.getElem?_eq_getElem (by rw [Array.size_modify];exact hlt),Array.getElem_modify_self,hk]
 rfl
theorem Sb.set1 {sb:Nat} {v0 v1 v2 v3 v4:Value} {W:World} (h:Sb sb v0 v1 v2 v3 v4 W) (v:Value):Sb sb v0 v v2 v3 v4 (W.setCell ⟨sb,1,none⟩ v):=heap_set W sb 1 v _ 207 h
theorem Sb.set2 {sb:Nat} {v0 v1 v2 v3 v4:Value} {W:World} (h:Sb sb v0 v1 v2 v3 v4 W) (v:Value):Sb sb v0 v1 v v3 v4 (W.setCell ⟨sb,2,none⟩ v):=heap_set W sb 2 v _ 207 h
theorem Sb.set3 {sb:Nat} {v0 v1 v2 v3 v4:Value} {W:World} (h:Sb sb v0 v1 v2 v3 v4 W) (v:Value):Sb sb v0 v1 v2 v v4 (W.setCell ⟨sb,3,none⟩ v):=heap_set W sb 3 v _ 207 h
theorem Sb.set4 {sb:Nat} {v0 v1 v2 v3 v4:Value} {W:World} (h:Sb sb v0 v1 v2 v3 v4 W) (v:Value):Sb sb v0 v1 v2 v3 v (W.setCell ⟨sb,4,none⟩ v):=heap_set W sb 4 v _ 207 h
theorem row_ne_sb {W:World} {base:Nat} {e:TypeId} {size:Nat} {v:Value} {n:Nat} {xs:List Value} {sb:Nat} {v0 v1 v2 v3 v4:Value} (hr:W.ownsRow base e size v n xs) (h:Sb sb v0 v1 v2 v3 v4 W) (he:e≠207):v.ownBlock≠some sb:=by
 rcases hr.2 with ⟨rfl,_⟩ | ⟨g,cap,cur,rfl,_,hgb,_⟩
 ·simp [Value.ownBlock]
 ·intro e'
  obtain rfl:g=sb:=by simpa [Value.ownBlock] using e'
  rw [show W.heap[g]?=_ from h] at hgb
  simp at hgb
  exact he hgb.2.symm
theorem ownsRow_set_other {W:World} {base:Nat} {e:TypeId} {size:Nat} {v:Value} {n:Nat} {xs:List Value} {b:Nat} (hr:W.ownsRow base e size v n xs) (hne:v.ownBlock≠some b) (o:Nat) (u:Value):(W.setCell ⟨b,o,none⟩ u).ownsRow base e size v n xs:=by
 refine ⟨hr.1,?_⟩
 rcases hr.2 with h | ⟨g,cap,cur,rfl,hb,hh,r⟩
 ·exact .inl h
 ·exact .inr ⟨g,cap,cur,rfl,hb,(Below.heap_setCell _ _ _ g (fun e=>hne (by simp [Value.ownBlock,e]))).trans hh,r⟩
theorem Pn.grown {pb:Nat} {s:ByteArray} {a:Nat} {bad:Int} {l:Value} {w w':World} {own:Option Nat} (h:Pn pb s a bad l w) (hg:w.grownBy w' own) (hne:own≠some pb):Pn pb s a bad l w' :=
 ⟨(hg.cell_far ⟨pb,0,none⟩ h.lt (Ne.symm hne)).trans h.c0,(hg.cell_far ⟨pb,1,none⟩ h.lt (Ne.symm hne)).trans h.c1,(hg.cell_far ⟨pb,2,none⟩ h.lt (Ne.symm hne)).trans h.c2,(hg.cell_far ⟨pb,3,none⟩ h.lt (Ne.symm hne)).trans h.c3,fun o=>(hg.frozen_far ⟨pb,o,none⟩ h.lt (Ne.symm hne)).trans (h.fz o),Nat.lt_of_lt_of_le h.lt hg.size⟩
theorem Pn.other {pb:Nat} {s:ByteArray} {a:Nat} {bad:Int} {l:Value} {w:World} (h:Pn pb s a bad l w) {b:Nat} (hne:b≠pb) (o:Nat) (v:Value):Pn pb s a bad l (w.setCell ⟨b,o,none⟩ v) :=
 h.grown (grown_set w b o v) (by simpa using hne)
theorem thenP_sign (s:ByteArray) (m b:Nat) (o3:Bool) (c3:Nat) (item:Nat→Bool × Nat) (R:Bool × Nat) (hi:item b=(o3,c3)) (h:Pl.lst s item (m+1) b=R) (hq:(o3 && Pl.byteIn s 44 44 c3)=false):Pl.thenP (o3,c3) (Pl.sign s 41)=R:=by
 unfold Pl.lst at h;rw [hi] at h
 cases o3 with
 | false=>exact h
 | true =>
  have hq':Pl.byteIn s 44 44 c3=false:=by simpa using hq
  simp only [Pl.thenP,if_true,hq',Bool.false_eq_true,if_false] at h
  exact h
theorem lst_more (s:ByteArray) (m b:Nat) (o3:Bool) (c3:Nat) (item:Nat→Bool × Nat) (R:Bool × Nat) (hi:item b=(o3,c3)) (h:Pl.lst s item (m+1) b=R) (hq:(o3 && Pl.byteIn s 44 44 c3)=true):o3=true∧c3<s.size∧Pl.lst s item m (c3+1)=R:=by
 simp only [Bool.and_eq_true] at hq
 obtain ⟨rfl,hb⟩:=hq
 unfold Pl.lst at h;rw [hi] at h
 simp only [Pl.thenP,if_true,hb] at h
 exact ⟨rfl,(Pl.byteIn_lt hb).1,h⟩
theorem pair_assoc (s:ByteArray) (b:Nat):Pl.thenP (Pl.thenP (Pl.word s b) (Pl.sign s 61)) (Pl.word s)=Pl.pairP s b:=by
 unfold Pl.pairP Pl.thenP
 by_cases h:(Pl.word s b).1=true <;> simp [h]
def agN:Value→Nat
 | .bool true=>1
 | _=>0
end Go.Proofs.YtcmgclckknpecaaGreatDoor
