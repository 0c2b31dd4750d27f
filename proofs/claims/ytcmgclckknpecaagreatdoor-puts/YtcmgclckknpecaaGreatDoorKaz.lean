import Derived.Test.YtcmgclckknpecaaGreatDoorKap
import Derived.Test.YtcmgclckknpecaaGreatDoorKah
import Derived.Laws.IdiomStrings
import Derived.Deep.AppendLies
import Derived.Test.YtcmgclckknpecaaGreatDoorKau
import Derived.Test.YtcmgclckknpecaaGreatDoorKay
import Derived.Test.YtcmgclckknpecaaGreatDoorKao
import Derived.Deep.RegionHeld3
import Derived.Deep.RegionLaw
import Derived.BigRegion
namespace Go.Proofs.YtcmgclckknpecaaGreatDoor
open Go.RowKit
theorem conv_new (w:World) (l:List UInt8) (cap:Nat) :
  (convert 164 9 (.slice (some ⟨w.heap.size,0,none⟩) l.length cap)).run Tryz.prog (w.alloc (.cells ((l.map fun b=>Value.int .u8 (b.toNat:Int)).toArray) 5))=.ok (.string ⟨l.toArray⟩) (w.alloc (.cells ((l.map fun b=>Value.int .u8 (b.toNat:Int)).toArray) 5)):=by
 refine run_convert_bytes_back _ 164 9 5 _ cap l Tryz.underlying164 Tryz.underlying5 Tryz.underlying9 (fun j hj=>?_)
 have hh:=heap_alloc_new w (.cells ((l.map fun b=>Value.int .u8 (b.toNat:Int)).toArray) 5)
 exact World.news_of_block hh j _ (by simp [hj])
theorem conv_code (w:World) (c:Nat) (zs:List Int) (hz:Lib.encodeRuneZ (c:Int)=zs) (n:Nat) (hn:zs.length=n) (A:Array Value) (hA:A=(zs.map (Value.int .u8)).toArray) (cap:Nat) :
  (convert 164 9 (.slice (some ⟨w.heap.size,0,none⟩) n cap)).run Tryz.prog (w.alloc (.cells A 5))=.ok (.string (Pl.en [c])) (w.alloc (.cells A 5)):=by
 have hb:Pl.eb [c]=zs.map (fun z=>z.toNat.toUInt8):=by
  simp only [Pl.eb,List.flatMap_cons,List.flatMap_nil,List.append_nil,Lib.encodeRune,hz]
 have h:=conv_new w (Pl.eb [c]) cap
 have e:(Pl.eb [c]).map (fun b=>Value.int .u8 (b.toNat:Int))=zs.map (Value.int .u8):=by
  rw [hb,List.map_map]
  refine List.map_congr_left (fun z hzm=>?_)
  obtain ⟨h0,h1⟩:=Lib.encodeRuneZ_byte (c:Int) z (by rw [hz];exact hzm)
  have:z.toNat.toUInt8.toNat=z.toNat:=u8nat _ (by omega)
  show Value.int .u8 ((z.toNat.toUInt8.toNat:Nat):Int)=Value.int .u8 z
  rw [this,Int.toNat_of_nonneg h0]
 have hl:(Pl.eb [c]).length=n:=by rw [hb,List.length_map,hn]
 rw [e,hl] at h
 rw [hA]
 exact h
set_option maxRecDepth 100000 in
set_option maxHeartbeats 1000000 in
theorem rby_one (c:Nat) (hc:c<128) (w:World):Calls Tryz.prog 81 #[.int .i64 (c:Int)] w fun e w'=>e=.returned (.string (Pl.en [c]))∧Below w.heap.size w w':=by
 have h1:(c:Int)<128:=by omega
 have hcv:=conv_code w c [(c:Int)] (Lib.encodeRuneZ_one (by omega) (by omega)) 1 rfl #[.int .u8 (c:Int)] rfl 1
 generalize Pl.en [c]=S at hcv ⊢
 go_enter Tryz.func81,Tryz.ntmps81
 go_wp2_with fail
 go_ret
 exact ⟨rfl,(Below.refl _ w).alloc (Nat.le_refl _) _⟩
set_option maxRecDepth 100000 in
set_option maxHeartbeats 1000000 in
theorem rby_two (c:Nat) (hc:128≤c) (hc2:c<2048) (w:World):Calls Tryz.prog 81 #[.int .i64 (c:Int)] w fun e w'=>e=.returned (.string (Pl.en [c]))∧Below w.heap.size w w':=by
 have h1:¬ (c:Int)<128:=by omega
 have h2:(c:Int)<2048:=by omega
 have hcv:=conv_code w c [192+(c:Int) / 64,128+(c:Int) % 64] (Lib.encodeRuneZ_two (by omega) (by omega)) 2 rfl #[.int .u8 (192+(c:Int) / 64),.int .u8 (128+(c:Int) % 64)] rfl 2
 generalize Pl.en [c]=S at hcv ⊢
 go_enter Tryz.func81,Tryz.ntmps81
 go_wp2_with fail
 go_ret
 exact ⟨rfl,(Below.refl _ w).alloc (Nat.le_refl _) _⟩
set_option maxRecDepth 100000 in
set_option maxHeartbeats 1000000 in
theorem rby_three (c:Nat) (hc:2048≤c) (hc2:c<65536) (ho:c<55296∨57343<c) (w:World):Calls Tryz.prog 81 #[.int .i64 (c:Int)] w fun e w'=>e=.returned (.string (Pl.en [c]))∧Below w.heap.size w w':=by
 have h1:¬ (c:Int)<128:=by omega
 have h2:¬ (c:Int)<2048:=by omega
 have h3:(c:Int)<65536:=by omega
 have hcv:=conv_code w c [224+(c:Int) / 4096,128+(c:Int) / 64 % 64,128+(c:Int) % 64] (Lib.encodeRuneZ_three (by omega)) 3 rfl #[.int .u8 (224+(c:Int) / 4096),.int .u8 (128+(c:Int) / 64 % 64),.int .u8 (128+(c:Int) % 64)] rfl 3
 generalize Pl.en [c]=S at hcv ⊢
 go_enter Tryz.func81,Tryz.ntmps81
 go_wp2_with fail
 go_ret
 exact ⟨rfl,(Below.refl _ w).alloc (Nat.le_refl _) _⟩
set_option maxRecDepth 100000 in
set_option maxHeartbeats 1000000 in
theorem rby_four (c:Nat) (hc:65536≤c) (hc2:c≤1114111) (w:World):Calls Tryz.prog 81 #[.int .i64 (c:Int)] w fun e w'=>e=.returned (.string (Pl.en [c]))∧Below w.heap.size w w':=by
 have h1:¬ (c:Int)<128:=by omega
 have h2:¬ (c:Int)<2048:=by omega
 have h3:¬ (c:Int)<65536:=by omega
 have hcv:=conv_code w c [240+(c:Int) / 262144,128+(c:Int) / 4096 % 64,128+(c:Int) / 64 % 64,128+(c:Int) % 64] (Lib.encodeRuneZ_four (by omega) (by omega)) 4 rfl #[.int .u8 (240+(c:Int) / 262144),.int .u8 (128+(c:Int) / 4096 % 64),.int .u8 (128+(c:Int) / 64 % 64),.int .u8 (128+(c:Int) % 64)] rfl 4
 generalize Pl.en [c]=S at hcv ⊢
 go_enter Tryz.func81,Tryz.ntmps81
 go_wp2_with fail
 go_ret
 exact ⟨rfl,(Below.refl _ w).alloc (Nat.le_refl _) _⟩
theorem rby_any (c:Nat) (hc:Pl.okc c) (w:World):Calls Tryz.prog 81 #[.int .i64 (c:Int)] w fun e w'=>e=.returned (.string (Pl.en [c]))∧Below w.heap.size w w':=by
 unfold Pl.okc at hc
 by_cases h1:c<128
 ·exact rby_one c h1 w
 ·by_cases h2:c<2048
  ·exact rby_two c (by omega) h2 w
  ·by_cases h3:c<65536
   ·exact rby_three c (by omega) h3 (by omega) w
   ·exact rby_four c (by omega) (by omega) w
end Go.Proofs.YtcmgclckknpecaaGreatDoor
namespace Go.Proofs.YtcmgclckknpecaaGreatDoor
open Go.RowKit
structure Co (g:Nat) (cs:List Nat) (w:World):Prop where
 c:∀ i (h:i<cs.length),w.cell? ⟨g,i,none⟩=some (.int .i64 (cs[i]:Int))
theorem Co.below {g n0:Nat} {cs:List Nat} {w w':World} (h:Co g cs w) (hb:Below n0 w w') (hg:0<cs.length→g<n0):Co g cs w' :=
 ⟨fun i hi=>(hb.cell (p:=⟨g,i,none⟩) (hg (by omega))).trans (h.c i hi)⟩
theorem en_snoc (cs:List Nat) (i:Nat) (h:i<cs.length):Pl.en (cs.take i)++Pl.en [cs[i]]=Pl.en (cs.take (i+1)):=by
 have e:cs.take (i+1)=cs.take i++[cs[i]]:=by rw [List.take_succ_eq_append_getElem h]
 apply ByteArray.ext
 rw [e,ByteArray.data_append]
 simp only [Pl.en,Pl.eb,List.flatMap_append,List.flatMap_cons,List.flatMap_nil,List.append_nil,List.append_toArray]
set_option maxRecDepth 100000 in
set_option maxHeartbeats 1000000 in
theorem rterm_any (g cap:Nat) (cs:List Nat) (a:Option Addr) (w:World) (hC:Co g cs w) (ha:0<cs.length→a=some ⟨g,0,none⟩) (hg:0<cs.length→g<w.heap.size) (hok:∀ c∈cs,Pl.okc c) (hl:cs.length≤1073741824) (x y z:Int) :
  Calls Tryz.prog 39 #[.agg #[.slice a cs.length cap,.int .i64 x,.int .i64 y,.int .i64 z]] w fun e w'=>e=.returned (.string (Pl.en cs))∧Below w.heap.size w w':=by
 go_enter Tryz.func39,Tryz.ntmps39
 obtain ⟨w0,hw0⟩:∃ w0,w.alloc (.cells #[.slice a cs.length cap,.int .i64 x,.int .i64 y,.int .i64 z] 128)=w0:=⟨_,rfl⟩
 have hB0:Below w.heap.size w w0:=by rw [← hw0];exact (Below.refl _ w).alloc (Nat.le_refl _) _
 have hsz0:w0.heap.size=w.heap.size+1:=by rw [← hw0];simp
 have ht0:w0.cell? ⟨w.heap.size,0,none⟩=some (.slice a cs.length cap):=by rw [← hw0];simp [go_sem]
 have hC0:=hC.below hB0 hg
 go_wp2_with fail
 go_loopw [3,4] (fun s i wr=>∃ j:Nat,i=.int .i64 (j:Int)∧s=.string (Pl.en (cs.take j))∧j≤cs.length∧Below w0.heap.size w0 wr) (fun _ i _=>cs.length - (intOf i).toNat)
 case atStart=>exact ⟨0,rfl,rfl,by omega,Below.refl _ _⟩
 case round =>
  obtain ⟨j,rfl,rfl,hj,hB⟩:=hrel
  by_cases hjl:j<cs.length
  ·have hjI:(j:Int)<(cs.length:Int):=by omega
   obtain rfl:=ha (by omega)
   have hc:=(hC0.below hB (fun h=>by have:=hg h;omega)).c j hjl
   have ht:=(hB.cell (p:=⟨w.heap.size,0,none⟩) (by show w.heap.size<_;omega)).trans ht0
   have hs:=en_snoc cs j hjl
   have hk:=hok _ (List.getElem_mem hjl)
   obtain ⟨d,hd⟩:∃ d,cs[j]=d:=⟨_,rfl⟩
   rw [hd] at hc hs hk
   have HS:Hid (Pl.en (cs.take j)++Pl.en [d]=Pl.en (cs.take (j+1))):=hs
   clear hs
   go_wp2_with fail
   refine (rby_any d hk _).mono ?_
   rintro e w2 ⟨rfl,hB2⟩
   have hB3:Below w0.heap.size w0 w2:=hB.trans (hB2.mono hB.size)
   go_wp2_with fail
   ·exfalso
    rename_i hbig
    rw [Pl.en_size,Pl.en_size] at hbig
    have e1:=(Pl.eb_le (cs.take j)).2
    have e2:=(Pl.eb_le [d]).2
    have e3:(cs.take j).length≤cs.length:=by simp;omega
    simp only [List.length_singleton] at e2
    omega
   exact ⟨⟨j+1,by go_num,by rw [← HS.out],by omega,hB3⟩,by simp [intOf];omega⟩
  ·have hjI:¬ (j:Int)<(cs.length:Int):=by omega
   have he:cs.take j=cs:=List.take_of_length_le (by omega)
   rw [he]
   have ht:=(hB.cell (p:=⟨w.heap.size,0,none⟩) (by show w.heap.size<_;omega)).trans ht0
   go_wp2_with fail
   go_ret
   exact ⟨rfl,hB0.trans (hB.mono (by omega))⟩
end Go.Proofs.YtcmgclckknpecaaGreatDoor
namespace Go.Proofs.YtcmgclckknpecaaGreatDoor
open Go.RowKit
structure Kp (w w':World):Prop where
 b:∀ (g:Nat) (cur:Array Value),w.heap[g]?=some (Obj.cells cur 3 (0,0))→w'.heap[g]?=some (Obj.cells cur 3 (0,0))
theorem Kp.trans {a b c:World} (h:Kp a b) (k:Kp b c):Kp a c:=⟨fun g cur e=>k.b g cur (h.b g cur e)⟩
theorem Kp.of_below {n:Nat} {w w':World} (h:Below n w w') (hn:w.heap.size≤n):Kp w w' :=
 ⟨fun g _ e=>(h.block g (Nat.lt_of_lt_of_le (Array.getElem?_eq_some_iff.1 e).1 hn)).trans e⟩
theorem Kp.alloc (w:World) (o:Obj):Kp w (w.alloc o):=Kp.of_below ((Below.refl w.heap.size w).alloc (Nat.le_refl _) o) (Nat.le_refl _)
theorem Kp.of_grown {w w':World} {base:Nat} {t:TypeId} {sz n:Nat} {v:Value} {xs:List Value} (h:w.ownsRow base t sz v n xs) (ht:t≠3) (hg:w.grownBy w' v.ownBlock):Kp w w':=by
 refine ⟨fun g cur e=>(hg.block g (Array.getElem?_eq_some_iff.1 e).1 fun hs=>?_).trans e⟩
 rcases h.2 with ⟨rfl,_⟩ | ⟨g',cap,c2,rfl,_,hh,_⟩
 ·simp [Value.ownBlock] at hs
 ·have:g=g':=by simpa [Value.ownBlock] using hs
  subst this
  rw [e] at hh
  injection hh with hh
  injection hh with _ h2 _
  exact ht h2.symm
def iv (c:Nat):Value:=.int .i64 (c:Int)
structure CoR (w:World) (sv:Value) (cs:List Nat):Prop where
 r:w.ownsRow 0 3 1 sv cs.length (cs.map iv)
theorem CoR.kp {w w':World} {sv:Value} {cs:List Nat} (h:CoR w sv cs) (hk:Kp w w'):CoR w' sv cs:=by
 refine ⟨h.r.1,?_⟩
 rcases h.r.2 with h | ⟨g,cap,cur,hv,hg,hh,r⟩
 ·exact .inl h
 ·exact .inr ⟨g,cap,cur,hv,hg,hk.b _ _ hh,r⟩
theorem CoR.of_own {w:World} {base:Nat} {sv:Value} {n:Nat} {cs:List Nat} (h:w.ownsRow base 3 1 sv n (cs.map iv)):CoR w sv cs∧n=cs.length:=by
 have hn:n=cs.length:=by have:=h.1;simp at this;omega
 subst hn
 refine ⟨⟨h.1,?_⟩,rfl⟩
 rcases h.2 with h | ⟨g,cap,cur,hv,hg,hh,r⟩
 ·exact .inl h
 ·exact .inr ⟨g,cap,cur,hv,Nat.zero_le _,hh,r⟩
theorem CoR.co {w:World} {sv:Value} {cs:List Nat} (h:CoR w sv cs):∃ a cap g,sv=.slice a cs.length cap∧Co g cs w∧(0<cs.length→a=some ⟨g,0,none⟩)∧(0<cs.length→g<w.heap.size):=by
 rcases h.r.2 with ⟨rfl,hn⟩ | ⟨g,cap,cur,hv,_,hh,_,_,_,ht⟩
 ·exact ⟨none,0,0,by rw [hn],⟨fun i hi=>by omega⟩,fun h=>by omega,fun h=>by omega⟩
 ·refine ⟨some ⟨g,0,none⟩,cap,g,hv,⟨fun i hi=>?_⟩,fun _=>rfl,fun _=>(Array.getElem?_eq_some_iff.1 hh).1⟩
  have h1:(cur.toList.take (cs.length*1))[i]?=some (iv (cs[i])):=by rw [ht];simp [hi]
  rw [List.getElem?_take_of_lt (by omega)] at h1
  have h2:cur[i]?=some (iv (cs[i])):=by simpa using h1
  simp [World.cell?,hh,h2,iv]
abbrev Tu:=Value × List Nat × Nat × Nat × Nat
def enc4 (u:Tu):List Value:=[u.1,.int .i64 (u.2.2.1:Int),.int .i64 (u.2.2.2.1:Int),.int .i64 (u.2.2.2.2:Int)]
theorem enc4_snoc (us:List Tu) (u:Tu):(us++[u]).flatMap enc4=us.flatMap enc4++enc4 u:=by simp [List.flatMap_append]
structure Tkr (base:Nat) (v:Value) (ts:List Pl.Tc) (w:World):Prop where
 r:∃ us:List Tu,us.map (·.2)=ts∧w.ownsRow base 128 4 v us.length (us.flatMap enc4)∧∀ u∈us,CoR w u.1 u.2.1
theorem Tkr.nil (base:Nat) (w:World):Tkr base (.slice none 0 0) [] w:=⟨[],rfl,World.ownsRow_nil _ _ _ _,by simp⟩
theorem Tkr.below {base:Nat} {v:Value} {ts:List Pl.Tc} {w w':World} (h:Tkr base v ts w) (hb:Below w.heap.size w w'):Tkr base v ts w':=by
 obtain ⟨us,h1,h2,h3⟩:=h.r
 exact ⟨us,h1,ownsRow_below h2 hb,fun u hu=>(h3 u hu).kp (Kp.of_below hb (Nat.le_refl _))⟩
theorem Tkr.len {base:Nat} {v:Value} {ts:List Pl.Tc} {w:World} (h:Tkr base v ts w):∃ a cap,v=.slice a ts.length cap:=by
 obtain ⟨us,rfl,h2,h3⟩:=h.r
 rcases h2.2 with ⟨rfl,hn⟩ | ⟨g,cap,cur,rfl,_⟩
 ·exact ⟨none,0,by simp [hn]⟩
 ·exact ⟨some ⟨g,0,none⟩,cap,by simp⟩
theorem Tkr.base {b b':Nat} {v:Value} {ts:List Pl.Tc} {w:World} (h:Tkr b v ts w) (hb:b'≤b):Tkr b' v ts w:=by
 obtain ⟨us,h1,h2,h3⟩:=h.r
 refine ⟨us,h1,⟨h2.1,?_⟩,h3⟩
 rcases h2.2 with h | ⟨g,cap,cur,hv,hg,r⟩
 ·exact .inl h
 ·exact .inr ⟨g,cap,cur,hv,Nat.le_trans hb hg,r⟩
theorem Tkr.at {base:Nat} {v:Value} {ts:List Pl.Tc} {w:World} (h:Tkr base v ts w) {k:Nat} (hk:k<ts.length):∃ g cap sv,v=.slice (some ⟨g,0,none⟩) ts.length cap∧base≤g∧g<w.heap.size ∧
  w.cell? ⟨g,k*4,none⟩=some sv∧w.cell? ⟨g,k*4+1,none⟩=some (.int .i64 ((ts[k]).2.1:Int))∧w.cell? ⟨g,k*4+2,none⟩=some (.int .i64 ((ts[k]).2.2.1:Int))∧w.cell? ⟨g,k*4+3,none⟩=some (.int .i64 ((ts[k]).2.2.2:Int))∧CoR w sv (ts[k]).1:=by
 obtain ⟨us,rfl,h2,h3⟩:=h.r
 have hk':k<us.length:=by simpa using hk
 rcases h2.2 with ⟨rfl,hn⟩ | ⟨g,cap,cur,rfl,hb,hh,_,_,_,ht⟩
 ·omega
 ·have hc:∀ j,j<4→w.cell? ⟨g,k*4+j,none⟩=(enc4 (us[k]))[j]?:=fun j hj=>by
   have e1:(us.flatMap enc4)[k*4+j]?=(enc4 (us[k]))[j]?:=by
    rename_i hx1 hx2 hx3
    clear hx1 hx2 hx3 ht h2 h3 hk h
    induction us generalizing k with
    | nil=>simp at hk'
    | cons u r ih =>
     rw [List.flatMap_cons]
     cases k with
     | zero=>rw [List.getElem?_append_left (by simp [enc4];omega)];simp
     | succ k =>
      rw [List.getElem?_append_right (by simp [enc4];omega)]
      have:=ih (k:=k) (by simpa using hk')
      rw [show (k+1)*4+j - (enc4 u).length=k*4+j by simp [enc4];omega]
      simpa using this
   have h4:k*4+j<us.length*4:=by omega
   have h1:(cur.toList.take (us.length*4))[k*4+j]?=(enc4 (us[k]))[j]?:=by rw [ht,e1]
   rw [List.getElem?_take_of_lt h4] at h1
   have h5:cur[k*4+j]?=(enc4 (us[k]))[j]?:=by simpa using h1
   simp [World.cell?,hh,h5]
  have e:(us.map (·.2))[k]=(us[k]).2:=by simp
  refine ⟨g,cap,(us[k]).1,by simp,hb,(Array.getElem?_eq_some_iff.1 hh).1,?_,?_,?_,?_,?_⟩
  ·have:=hc 0 (by omega);simpa [enc4] using this
  ·rw [hc 1 (by omega),e];simp [enc4]
  ·rw [hc 2 (by omega),e];simp [enc4]
  ·rw [hc 3 (by omega),e];simp [enc4]
  ·rw [e];exact h3 _ (List.getElem_mem hk')
end Go.Proofs.YtcmgclckknpecaaGreatDoor
namespace Go.Proofs.YtcmgclckknpecaaGreatDoor
open Go.RowKit
theorem Blk.four {b:Nat} {t:TypeId} {v0 v1 v2 v3:Value} {W:World} (h:Blk b t #[v0,v1,v2,v3] W):(W.cell? ⟨b,0,none⟩=some v0∧W.cell? ⟨b,1,none⟩=some v1∧W.cell? ⟨b,2,none⟩=some v2∧W.cell? ⟨b,3,none⟩=some v3)∧(∀ o,W.frozen? ⟨b,o,none⟩=false):=by
 unfold Blk at h
 simp [World.cell?,World.frozen?,h]
theorem Blk.f0 {b:Nat} {t:TypeId} {v0 v1 v2 v3:Value} {W:World} (h:Blk b t #[v0,v1,v2,v3] W) (u:Value):Blk b t #[u,v1,v2,v3] (W.setCell ⟨b,0,none⟩ u):=heap_set W b 0 u _ t h
theorem Blk.f1 {b:Nat} {t:TypeId} {v0 v1 v2 v3:Value} {W:World} (h:Blk b t #[v0,v1,v2,v3] W) (u:Value):Blk b t #[v0,u,v2,v3] (W.setCell ⟨b,1,none⟩ u):=heap_set W b 1 u _ t h
theorem Blk.f2 {b:Nat} {t:TypeId} {v0 v1 v2 v3:Value} {W:World} (h:Blk b t #[v0,v1,v2,v3] W) (u:Value):Blk b t #[v0,v1,u,v3] (W.setCell ⟨b,2,none⟩ u):=heap_set W b 2 u _ t h
theorem Blk.f3 {b:Nat} {t:TypeId} {v0 v1 v2 v3:Value} {W:World} (h:Blk b t #[v0,v1,v2,v3] W) (u:Value):Blk b t #[v0,v1,v2,u] (W.setCell ⟨b,3,none⟩ u):=heap_set W b 3 u _ t h
theorem res139 {tmps:Array Value} {w:World} {b:Nat} {v0 v1 v2 v3:Value} (hp:tmps[8]?=some (.pointer (some ⟨b,0,none⟩))) (h:Blk b 128 #[v0,v1,v2,v3] w) :
  (results Tryz.f139 tmps).run Tryz.prog w=.ok (.agg #[v0,v1,v2,v3]) w:=by
 obtain ⟨⟨c0,c1,c2,c3⟩,_⟩:=h.four
 simp [results,Tryz.results139,go_sem,hp,c0,c1,c2,c3]
theorem Pl.sub_snoc (xs:List (Nat × Nat × Nat)) (i q:Nat) (hiq:i≤q) (hq:q<xs.length):(Pl.sub xs i (q+1 - i)).map (·.1)=(Pl.sub xs i (q - i)).map (·.1)++[Pl.cdx xs q]:=by
 unfold Pl.sub
 rw [show q+1 - i=(q - i)+1 by omega,List.take_add_one,List.map_append,List.getElem?_drop,show i+(q - i)=q by omega,List.getElem?_eq_getElem hq,Pl.cdx_eq hq]
 rfl
set_option maxRecDepth 100000 in
set_option maxHeartbeats 2000000 in
theorem rtoken_any' (g cap:Nat) (xs:List (Nat × Nat × Nat)) (i p pos:Nat) (w:World) (hC:Cr g 0 xs w) (hg:g<w.heap.size) (hik:i≤p) (hk:p<xs.length) (hl:xs.length≤268435456) :
  Calls Tryz.prog 139 #[.slice (some ⟨g,0,none⟩) xs.length cap,.int .i64 (i:Int),.int .i64 ((p:Int)+1),.int .i64 (pos:Int)] w fun e w'=>∃ sv,e=.returned (.agg #[sv,.int .i64 (pos:Int),.int .i64 (Pl.frx xs i:Int),.int .i64 (Pl.tox xs p:Int)])∧CoR w' sv ((Pl.sub xs i (p+1 - i)).map (·.1))∧Below w.heap.size w w':=by
 obtain ⟨i0,hi,hz0,hz1,hz2⟩:=info_parts info3
 obtain ⟨_,a1,_⟩:=hC.c i (by omega)
 obtain ⟨_,_,b2⟩:=hC.c p (by omega)
 have hF:Pl.frx xs i=(xs[i]).2.1:=by simp [Pl.frx,show i<xs.length by omega]
 have hT:Pl.tox xs p=(xs[p]).2.2:=by simp [Pl.tox,hk]
 rw [← hF,Nat.zero_add] at a1
 rw [← hT,Nat.zero_add] at b2
 obtain ⟨F,hF2⟩:∃ F,Pl.frx xs i=F:=⟨_,rfl⟩
 obtain ⟨T,hT2⟩:∃ T,Pl.tox xs p=T:=⟨_,rfl⟩
 rw [hF2] at a1 ⊢
 rw [hT2] at b2 ⊢
 clear hF hT hF2 hT2
 have hiI:(i:Int)<(xs.length:Int):=by omega
 have hkI:(p:Int)<(xs.length:Int):=by omega
 have hw1:IntKind.i64.wrap (p:Int)=(p:Int):=by rw [IntKind.wrap_i64];omega
 go_enter Tryz.func139,Tryz.ntmps139
 go_wp2_with fail
 go_region_held3 (fun w'=>w'.cell? ⟨g,i*3+1,none⟩=some (.int .i64 (F:Int))∧w'.cell? ⟨g,p*3+2,none⟩=some (.int .i64 (T:Int))) (first | go_keep) (fail)
 go_wp2_with fail
 go_loopw [10] (fun jv wr=>∃ (q:Nat) (sv:Value),jv=.int .i64 (q:Int)∧i≤q∧q≤p+1∧Blk w.heap.size 128 #[.slice none 0 0,.int .i64 0,.int .i64 0,.int .i64 0] wr∧Blk (w.heap.size+1) 128 #[sv,.int .i64 (pos:Int),.int .i64 (F:Int),.int .i64 (T:Int)] wr∧wr.ownsRow w.heap.size 3 1 sv (q - i) (((Pl.sub xs i (q - i)).map (·.1)).map iv)∧Below w.heap.size w wr) (fun jv _=>p+1 - (intOf jv).toNat)
 case atStart =>
  refine ⟨i,.slice none 0 0,rfl,by omega,by omega,?_,?_,by rw [Nat.sub_self];exact World.ownsRow_nil _ _ _ _,((((Below.refl _ w).alloc (Nat.le_refl _) _).alloc (by simp) _)).drew⟩
  ·have h:Blk w.heap.size 128 #[.slice none 0 0,.int .i64 0,.int .i64 0,.int .i64 0] (w.alloc (.cells #[.slice none 0 0,.int .i64 0,.int .i64 0,.int .i64 0] 128)):=heap_alloc_new w _
   exact h.alloc _
  ·have h:=heap_alloc_new (w.alloc (.cells #[.slice none 0 0,.int .i64 0,.int .i64 0,.int .i64 0] 128)) (.cells #[.slice none 0 0,.int .i64 (pos:Int),.int .i64 (F:Int),.int .i64 (T:Int)] 128)
   rw [World.size_alloc] at h
   exact h
 case round =>
  obtain ⟨q,sv,rfl,hiq,hqk,hres,hblk,hrow,hB⟩:=hrel
  have hs1:=hB.size
  have hbl:=hblk.lt
  by_cases hlt:q<p+1
  ·have hltI:(q:Int)<(p:Int)+1:=by omega
   have hqI:(q:Int)<(xs.length:Int):=by omega
   obtain ⟨⟨t0,t1,t2,t3⟩,tf⟩:=hblk.four
   have q0:=(hC.below hB fun _=>hg).code (k:=q) (by omega)
   rw [Nat.zero_add] at q0
   have HT:Hid ((Pl.sub xs i (q+1 - i)).map (·.1)=(Pl.sub xs i (q - i)).map (·.1)++[Pl.cdx xs q]):=Pl.sub_snoc xs i q hiq (by omega)
   obtain ⟨d,hd⟩:∃ d,Pl.cdx xs q=d:=⟨_,rfl⟩
   rw [hd] at q0 HT
   have hne:sv.ownBlock≠some (w.heap.size+1):=row_ne_blk hrow hblk (by decide)
   have hne0:sv.ownBlock≠some w.heap.size:=row_ne_blk hrow hres (by decide)
   have hq1:q+1 - i=q - i+1:=by omega
   have HK:Hid (∀ o w3,((wr.alloc o).drew).grownBy w3 sv.ownBlock→Blk w.heap.size 128 #[.slice none 0 0,.int .i64 0,.int .i64 0,.int .i64 0] w3∧Blk (w.heap.size+1) 128 #[sv,.int .i64 (pos:Int),.int .i64 (F:Int),.int .i64 (T:Int)] w3):=fun o w3 hgw =>
    ⟨Blk.keep (show Blk w.heap.size 128 #[.slice none 0 0,.int .i64 0,.int .i64 0,.int .i64 0] ((wr.alloc o).drew) from hres.alloc o) hgw hne0,Blk.keep (show Blk (w.heap.size+1) 128 #[sv,.int .i64 (pos:Int),.int .i64 (F:Int),.int .i64 (T:Int)] ((wr.alloc o).drew) from hblk.alloc o) hgw hne⟩
   clear hd
   go_wp2_with fail
   go_region_law
    ((refine step_append_lies _ (by rfl) _ _ _ (by rfl) w.heap.size 3 i0 _ 1 8 Tryz.underlying55 hi hz0 hz1 hz2 rfl (by omega) sv (q - i) (((Pl.sub xs i (q - i)).map (·.1)).map iv) (by rfl) ((hrow.alloc _).drew) ⟨wr.heap.size,0,none⟩ 1 1 [.int .i64 (d:Int)] (by rfl) (by rfl) (World.news_of_block (cs:=#[.int .i64 (d:Int)]) (t:=3) (fr:=(0,0)) (heap_alloc_new wr _)) (by simp [Value.oneCell']) (by omega) (by unfold maxLen;omega) (by omega) (by simp;omega) (wr.heap.size+1) (by simp) ?_;intro gn capn w3 hown1 hgrow hat hlt1;obtain ⟨hr3,hb3⟩:=HK.out _ _ hgrow;obtain ⟨⟨j0,j1,j2,j3⟩,jf⟩:=hb3.four;have jf0:=jf 0;clear jf))
   all_goals
    go_wp2
    have hB3:Below w.heap.size w w3:=Below.grown ((hB.alloc hs1 _).drew) hgrow (by simp;omega) fun j ej=>(ownBlock_lt hrow ej).2
    refine ⟨⟨q+1,_,by go_num,by omega,by omega,?_,hb3.f0 _,?_,hB3.setCell (p:=⟨w.heap.size+1,0,none⟩) (Nat.le_succ _) _⟩,by simp [intOf];omega⟩
    ·exact hr3.setO (by omega) 0 _
    ·rw [HT.out,hq1,List.map_append]
     exact ownsRow_set_other hown1 (row_ne_blk hown1 hb3 (by decide)) 0 _
  ·have hltI:¬ (q:Int)<(p:Int)+1:=by omega
   obtain rfl:q=p+1:=by omega
   obtain ⟨⟨t0,t1,t2,t3⟩,tf⟩:=hblk.four
   obtain ⟨⟨r0,r1,r2,r3⟩,rf⟩:=hres.four
   obtain ⟨va,vc,vg,rfl,_⟩:=(CoR.of_own hrow).1.co
   obtain ⟨vn,hvn⟩:∃ n,((Pl.sub xs i (p+1 - i)).map (·.1)).length=n:=⟨_,rfl⟩
   rw [hvn] at hrow hblk t0
   go_wp2_with fail
   have g1:=ownsRow_set_other hrow (row_ne_blk hrow hres (by decide)) 0 (.slice va vn vc)
   have b1:=hres.f0 (.slice va vn vc)
   have g2:=ownsRow_set_other g1 (row_ne_blk g1 b1 (by decide)) 1 (.int .i64 (pos:Int))
   have b2:=b1.f1 (.int .i64 (pos:Int))
   have g3:=ownsRow_set_other g2 (row_ne_blk g2 b2 (by decide)) 2 (.int .i64 (F:Int))
   have b3:=b2.f2 (.int .i64 (F:Int))
   have g4:=ownsRow_set_other g3 (row_ne_blk g3 b3 (by decide)) 3 (.int .i64 (T:Int))
   have b4:=b3.f3 (.int .i64 (T:Int))
   refine bodyPost_ret (res139 rfl b4) rfl ?_
   refine ⟨_,rfl,(CoR.of_own g4).1,?_⟩
   exact (((hB.setCell (p:=⟨w.heap.size,0,none⟩) (Nat.le_refl _) _).setCell (p:=⟨w.heap.size,1,none⟩) (Nat.le_refl _) _).setCell (p:=⟨w.heap.size,2,none⟩) (Nat.le_refl _) _).setCell (p:=⟨w.heap.size,3,none⟩) (Nat.le_refl _) _
theorem rtoken_any (g cap:Nat) (xs:List (Nat × Nat × Nat)) (i k pos:Nat) (w:World) (hC:Cr g 0 xs w) (hg:g<w.heap.size) (hik:i<k) (hk:k≤xs.length) (hl:xs.length≤268435456) :
  Calls Tryz.prog 139 #[.slice (some ⟨g,0,none⟩) xs.length cap,.int .i64 (i:Int),.int .i64 (k:Int),.int .i64 (pos:Int)] w fun e w'=>∃ sv,e=.returned (.agg #[sv,.int .i64 (pos:Int),.int .i64 (Pl.frx xs i:Int),.int .i64 (Pl.tox xs (k - 1):Int)])∧CoR w' sv ((Pl.sub xs i (k - i)).map (·.1))∧Below w.heap.size w w':=by
 obtain ⟨p,rfl⟩:∃ p,k=p+1:=⟨k - 1,by omega⟩
 have:=rtoken_any' g cap xs i p pos w hC hg (by omega) (by omega) hl
 rw [Nat.add_sub_cancel]
 exact this
end Go.Proofs.YtcmgclckknpecaaGreatDoor
namespace Go.Proofs.YtcmgclckknpecaaGreatDoor
open Go.RowKit
def Pl.isNm (s:ByteArray):Bool:=Pl.azF s s.size 0 && decide (0<s.size)
set_option maxRecDepth 100000 in
set_option maxHeartbeats 2000000 in
theorem rsmall_any (s:ByteArray) (hs:s.size≤9223372036854775807) (w:World) (R:Bool) (HR0:Hid (Pl.isNm s=R)) :
  Calls Tryz.prog 61 #[.string s] w fun e w'=>e=.returned (.bool R)∧Below w.heap.size w w':=by
 obtain ⟨P,hP⟩:∃ P,Pl.azF s s.size 0=P:=⟨_,rfl⟩
 have HR:Hid ((P && decide (0<s.size))=R):=by have:=HR0.out;unfold Pl.isNm at this;rw [hP] at this;exact this
 have HP:Hid (Pl.azF s s.size 0=P):=hP
 clear hP HR0
 go_enter Tryz.func61,Tryz.ntmps61
 go_wp2
 go_loopw [3] (fun i wr=>Below w.heap.size w wr∧∃ (q m:Nat),i=.int .i64 (q:Int)∧q≤s.size∧s.size≤q+m∧Hid (Pl.azF s m q=P)) (fun i _=>s.size - (intOf i).toNat)
 case atStart=>exact ⟨Below.refl _ _,0,s.size,rfl,by omega,by omega,HP⟩
 case round =>
  obtain ⟨hB,q,m,rfl,hq,hqm,HQ⟩:=hrel
  by_cases hlt:q<s.size
  ·have hltI:(q:Int)<(s.size:Int):=by omega
   obtain ⟨m',rfl⟩:∃ m',m=m'+1:=⟨m - 1,by omega⟩
   have hQ:=HQ.out
   rw [Pl.azF,if_pos hlt] at hQ
   have hbe:=Pl.bt_eq hlt
   rw [hbe] at hQ
   have hb8:=UInt8.toNat_lt s[q]
   obtain ⟨c,hc⟩:∃ c,(s[q]).toNat=c:=⟨_,rfl⟩
   rw [hc] at hQ hb8
   clear hbe HQ
   by_cases h1:c<97
   ·have hRf:R=false:=by
     have:P=false:=by rw [← hQ];simp [Pl.wit];omega
     rw [← HR.out,this,Bool.false_and]
    subst hRf
    have h1I:(c:Int)<97:=by omega
    clear hQ HR
    go_wp2_with fail
    go_ret
    exact ⟨rfl,hB⟩
   ·have h1I:¬ (c:Int)<97:=by omega
    by_cases h2:122<c
    ·have hRf:R=false:=by
      have:P=false:=by rw [← hQ];simp [Pl.wit];omega
      rw [← HR.out,this,Bool.false_and]
     subst hRf
     have h2I:(122:Int)<(c:Int):=by omega
     clear hQ HR
     go_wp2_with fail
     go_ret
     exact ⟨rfl,hB⟩
    ·have h2I:¬ (122:Int)<(c:Int):=by omega
     have HQ2:Hid (Pl.azF s m' (q+1)=P):=by
      have e:Pl.wit c 97 122=true:=by simp [Pl.wit];omega
      rw [e,Bool.true_and] at hQ;exact hQ
     clear hQ
     go_wp2_with fail
     exact ⟨⟨hB,q+1,m',by go_num,by omega,by omega,HQ2⟩,by simp [intOf];omega⟩
  ·have hltI:¬ (q:Int)<(s.size:Int):=by omega
   have hPt:P=true:=by
    rw [← HQ.out]
    cases m with
    | zero=>rfl
    | succ m=>rw [Pl.azF,if_neg hlt]
   have hR2:R=decide (0<s.size):=by rw [← HR.out,hPt,Bool.true_and]
   subst hR2
   clear HQ HR HP
   go_wp2_with fail
   go_ret
   exact ⟨ret_bool (by simp),hB⟩
structure Dg (d:Nat) (v0 v1 v2:Value) (w:World):Prop where
 b:w.heap[d]?=some (Obj.cells #[v0,v1,v2] 62 (0,0))
theorem Dg.cell {d:Nat} {v0 v1 v2:Value} {w:World} (h:Dg d v0 v1 v2 w):w.cell? ⟨d,0,none⟩=some v0∧w.cell? ⟨d,1,none⟩=some v1∧w.cell? ⟨d,2,none⟩=some v2∧∀ o,w.frozen? ⟨d,o,none⟩=false:=by
 simp [World.cell?,World.frozen?,h.b]
def fenc (f:ByteArray × ByteArray):List Value:=[.string f.1,.string f.2]
def Pl.fld (nm:ByteArray):List (ByteArray × ByteArray)→Nat→Int
 | [],_=>-1
 | f :: r,i=>if f.1=nm then (i:Int) else Pl.fld nm r (i+1)
set_option maxRecDepth 100000 in
set_option maxHeartbeats 2000000 in
theorem rfield_any (d:Nat) (v1 v2:Value) (a:Option Addr) (g cap:Nat) (fs:List (ByteArray × ByteArray)) (nm:ByteArray) (w:World) (hD:Dg d (.slice a fs.length cap) v1 v2 w) (HP:Hid (∀ i (h:i<fs.length),w.cell? ⟨g,i*2,none⟩=some (.string (fs[i]).1))) (ha:0<fs.length→a=some ⟨g,0,none⟩) (hl:fs.length≤1000) (R:Int) (HR:Hid (Pl.fld nm fs 0=R)) :
  Calls Tryz.prog 62 #[.pointer (some ⟨d,0,none⟩),.string nm] w fun e w'=>e=.returned (.int .i64 R)∧Below w.heap.size w w':=by
 obtain ⟨c0,c1,c2,cf⟩:=hD.cell
 go_enter Tryz.func62,Tryz.ntmps62
 go_wp2_with fail
 go_loopw [5] (fun iv wr=>∃ (j q:Nat),wr=w.drewN q∧iv=.int .i64 (j:Int)∧j≤fs.length∧Hid (Pl.fld nm (fs.drop j) j=R)) (fun iv _=>fs.length - (intOf iv).toNat)
 case atStart=>exact ⟨0,0,rfl,rfl,by omega,HR⟩
 case round =>
  obtain ⟨j,q,rfl,rfl,hj,HJ⟩:=hrel
  by_cases hjl:j<fs.length
  ·have hjI:(j:Int)<(fs.length:Int):=by omega
   obtain rfl:=ha (by omega)
   have hc:=HP.out j hjl
   have hd:fs.drop j=fs[j] :: fs.drop (j+1):=List.drop_eq_getElem_cons hjl
   obtain ⟨⟨y,z⟩,hy⟩:∃ y,fs[j]=y:=⟨_,rfl⟩
   rw [hy] at hc hd
   simp only at hc
   have hJ:=HJ.out
   rw [hd,Pl.fld] at hJ
   simp only at hJ
   clear hd hy HJ
   by_cases hyx:y=nm
   ·subst hyx
    rw [if_pos rfl] at hJ
    subst hJ
    go_wp2_with fail
    go_ret
    exact ⟨rfl,below_drewN (Below.refl _ _) _⟩
   ·rw [if_neg hyx] at hJ
    have HJ2:Hid (Pl.fld nm (fs.drop (j+1)) (j+1)=R):=hJ
    clear hJ
    go_wp2_with fail
    ·exfalso
     rename_i hno
     rw [ByteArray.toList_eq,ByteArray.toList_eq,beq_iff_eq] at hno
     exact hyx (ByteArray.ext (Array.toList_inj.1 hno))
    exact ⟨⟨j+1,q,rfl,by go_num,by omega,HJ2⟩,by simp [intOf];omega⟩
  ·have hjI:¬ (j:Int)<(fs.length:Int):=by omega
   have hJ:=HJ.out
   rw [List.drop_of_length_le (by omega),Pl.fld] at hJ
   subst hJ
   go_wp2_with fail
   go_ret
   exact ⟨rfl,below_drewN (Below.refl _ _) _⟩
end Go.Proofs.YtcmgclckknpecaaGreatDoor
