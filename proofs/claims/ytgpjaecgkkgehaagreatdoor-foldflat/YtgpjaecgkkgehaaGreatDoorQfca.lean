/- The law FoldFlat, put together. -/
import Derived.Test.YtgpjaecgkkgehaaGreatDoorQfbz
namespace Go.Proofs.YtgpjaecgkkgehaaGreatDoor
open Go.RowKit Go.ChangeMaps
theorem mvt_id {t:Int×Int×Int} (h:Kd t):mvt idM t=t:=by
 obtain ⟨x,y,k⟩:=t
 obtain ⟨h1,h2⟩:=h
 dsimp only at h1 h2
 have hk:k=0∨k=1∨k=2∨k=3:=by omega
 have e1:(1*(2*x+1)+0*(2*y+1)+0 - 1) / 2=x:=by omega
 have e2:(0*(2*x+1)+1*(2*y+1)+0 - 1) / 2=y:=by omega
 unfold mvt idM
 dsimp only
 rw [e1,e2]
 rcases hk with rfl | rfl | rfl | rfl <;> rfl
theorem flat_dis {L:List (Int×Int×Int)} (hnd:L.Nodup) (hk:∀ t∈L,Kd t):∀ i j,i<L.length→j<L.length→mvP L (fun _=>idM) i=mvP L (fun _=>idM) j→i≠j→False:=fun i j hi hj e hne=>by
 have q:∀ k (h:k<L.length),mvP L (fun _=>idM) k=L[k]:=fun k h=>by
  have e:tg L k=L[k]:=by
   unfold tg
   rw [List.getD_eq_getElem?_getD,List.getElem?_eq_getElem h]
   rfl
  unfold mvP
  rw [e,mvt_id (hk _ (List.getElem_mem h))]
 rw [q i hi,q j hj] at e
 exact hne (nodup_atH hnd hi hj e)
theorem flat_cons (ks:List Int) (L:List (Int×Int×Int)):Cons (kdn ks 0) L (fun _=>idM):=⟨rfl,fun i j hi hj e _ _ _=>by simp [farM,kdn]⟩
theorem flat_parts {ks:List Int} {L:List (Int×Int×Int)} {part:Nat→Int} (hJ:Joined L) (hnd:L.Nodup) (hP:PartsOk (fun e=>decide (kdn ks 0 e=0)) L part):∀ i,i<L.length→part i=0:=by
 have h0:part 0=0:=by
  have h1:=hP.1 0 hJ.1
  refine Classical.byContradiction fun hne=>?_
  obtain ⟨b,hb,_⟩:=hP.2.2.2 0 hJ.1 0 (by omega) (by omega)
  omega
 exact closed_all hJ hnd (fun i=>part i=0) h0 (fun i j hi hj hs ha=>by
  obtain ⟨h1,e,h2,h3⟩:=ha
  rw [hP.2.1 i j hi hj ⟨h1,e,h2,h3,by simp [kdn]⟩]
  exact hs)
theorem foldFlat_any (W H:Int) (a c:Option Addr) (ca cc n:Nat) (zs ks:List Int) (w:World) (hz:Row w a zs) (hk:Row w c ks) (hn:ks.length=n*5) (h1:zs.length≤17592186044416) (h2:n≤3518437208883) (hs0:Steps w) :
  Calls Tryz.prog 4 #[.agg #[.int .i64 W,.int .i64 H,.slice a zs.length ca,.slice c n cc]] w fun e w'=>e=.returned (.bool true)∧Below w.heap.size w w':=by
 have CS:Hid (∀ V:World,Below w.heap.size w V→Calls Tryz.prog 8 #[.agg #[.int .i64 W,.int .i64 H,.slice a zs.length ca,.slice c n cc]] V fun e w'=>∃ a' ca' b' cb',e=.returned (.agg #[.int .i64 W,.int .i64 H,.slice a' zs.length ca',.slice b' n cb'])∧Row w' a' zs∧Row w' b' ks∧(b'=none∨∃ p o,b'=some ⟨p,o,none⟩)∧Below V.heap.size V w'):=fun V hV=>(sheetOf_form W H a c ca cc n zs ks V (hz.kept hV) (hk.kept hV) hn h1 h2).mono fun e w' ⟨a',ca',b',cb',he,r1,r2,hb,hf⟩=>⟨a',ca',b',cb',he,r1.row,r2.row,hf,hb⟩
 rcases sheet_either W H a c ca cc n zs ks w hz hk hn h2 hs0 with ⟨q1,q2⟩ | ⟨Wn,Hn,b,off,rfl,rfl,rfl,hW,hH,hl,hm,hJ,hC,hMay⟩
 ·refine foldFlat_no W H a c zs.length ca n cc zs ks w CS (fun V a' b' ca' cb' hV r1 r2 _=>?_) q2
  have C7:∀ (V2:World) (g:Nat),Below V.heap.size V V2→Row V2 (some ⟨g,0,none⟩) [0]→Calls Tryz.prog 7 #[.agg #[.int .i64 W,.int .i64 H,.slice a' zs.length ca',.slice b' n cb'],.slice (some ⟨g,0,none⟩) 1 1] V2 fun e w'=>e=.returned (.tuple #[.agg #[.int .i64 0,.int .i64 0,.slice none 0 0,.slice none 0 0,.slice none 0 0,.slice none 0 0],.int .i64 10])∧Below V2.heap.size V2 w':=fun V2 g hV2 _=>lay_none V2 W H a' b' (some ⟨g,0,none⟩) zs.length ca' n cb' 1 1 (fun V3 hV3=>placed_none V3 W H a' b' zs.length ca' n cb' (fun V4 hV4=>Place_no W H a' b' zs.length n ca' cb' V4 (fun V5 hV5=>q1 V5 a' b' ca' cb' (bl_via hV (bl_via hV2 (bl_via hV3 (bl_via hV4 hV5)))) (r1.kept (bl_via hV2 (bl_via hV3 (bl_via hV4 hV5)))) (r2.kept (bl_via hV2 (bl_via hV3 (bl_via hV4 hV5)))))))
  by_cases h0:n=0
  ·exact flat_no0 W H a' b' zs.length ca' n cb' V h0 C7
  ·refine flat_no1 W H a' b' zs.length ca' n cb' V (by omega) C7 (fun V2 hV2=>may49 W H a' b' zs.length ca' n cb' V2 false (fun V3 hV3=>(q1 V3 a' b' ca' cb' (bl_via hV (bl_via hV2 hV3)) (r1.kept (bl_via hV2 hV3)) (r2.kept (bl_via hV2 hV3))).mono fun e w' ⟨he,hb⟩=>⟨none,0,0,none,none,he,hb⟩))
 ·have hz0:0<zs.length:=by
   rw [hl]
   exact Nat.mul_pos (by omega) (by omega)
  by_cases h0:n=0
  ·subst h0
   have LA:∀ (V:World) (a' b' a3:Option Addr) (ca' cb' c3:Nat),Below w.heap.size w V→Row V a' zs→Row V b' ks→(b'=none∨∃ p o,b'=some ⟨p,o,none⟩)→Row V a3 [0]→Calls Tryz.prog 7 #[.agg #[.int .i64 (Wn:Int),.int .i64 (Hn:Int),.slice a' zs.length ca',.slice b' 0 cb'],.slice a3 1 c3] V fun e w'=>LaidTo V w' Wn Hn 0 (ty zs Wn Hn).length zs ks [0] (ty zs Wn Hn) (kdn ks 0) e∨((¬ ∃ N,Cons (kdn ks 0) (ty zs Wn Hn) N)∧e=.returned (.tuple #[.agg #[.int .i64 0,.int .i64 0,.slice none 0 0,.slice none 0 0,.slice none 0 0,.slice none 0 0],.int .i64 8])∧Below V.heap.size V w'):=fun V a' b' a3 ca' cb' c3 hV r1 r2 hf r3=>by
    obtain ⟨ba,oa,rfl,_⟩:=r1 0 hz0
    exact lay_any Wn Hn ba oa ca' 0 cb' c3 b' a3 zs ks [0] V r1 hW hH hl hm r2 hn h2 hf (hs0.kept hV) hJ hC r3
   have LT:∀ V:World,Below w.heap.size w V→Calls Tryz.prog 38 #[.agg #[.int .i64 (Wn:Int),.int .i64 (Hn:Int),.slice (some ⟨b,off,none⟩) zs.length ca,.slice c 0 cc]] V fun e w'=>∃ a c,e=.returned (.slice a (ty zs Wn Hn).length c)∧TRow w' a (ty zs Wn Hn)∧Below V.heap.size V w':=fun V hV=>(trisOf_any Wn Hn b off ca zs (.slice c 0 cc) V (hz.kept hV) hW hH hl hm).mono fun e w' ⟨v,he,ho,hb⟩=>by
    obtain ⟨a9,c9,rfl,hT⟩:=own_tris ho
    exact ⟨a9,c9,he,hT,hb⟩
   have LO:∀ V:World,Below w.heap.size w V→Calls Tryz.prog 8 #[.agg #[.int .i64 (Wn:Int),.int .i64 (Hn:Int),.slice (some ⟨b,off,none⟩) zs.length ca,.slice c 0 cc]] V fun e w'=>∃ a' ca' b' cb',e=.returned (.agg #[.int .i64 (Wn:Int),.int .i64 (Hn:Int),.slice a' zs.length ca',.slice b' 0 cb'])∧RowF w' V.heap.size a' zs∧RowF w' V.heap.size b' ks∧Below V.heap.size V w':=fun V hV=>sheetOf_any Wn Hn (some ⟨b,off,none⟩) c ca cc 0 zs ks V (hz.kept hV) (hk.kept hV) hn h1 h2
   have hlen:(ty zs Wn Hn).length≤256:=by have:=ty_len zs Wn Hn hW.2;omega
   have hnd:=ty_nodup zs Wn Hn
   have hbd:=ty_bd (zs:=zs) hW.2 hH.2
   have hkd:∀ t∈ty zs Wn Hn,Kd t:=fun t ht=>(hbd t ht).2.2
   have h0:0<(ty zs Wn Hn).length:=hJ.1
   obtain ⟨L,hL⟩:∃ L,L=ty zs Wn Hn:=⟨_,rfl⟩
   rw [← hL] at LA LT hlen hnd hbd hkd h0 hJ
   have hd:∀ i j,i<L.length→j<L.length→mvP L (fun _=>idM) i=mvP L (fun _=>idM) j→i≠j→hOf [0] (fun _=>0) i≠hOf [0] (fun _=>0) j:=fun i j hi hj e hne=>(flat_dis hnd hkd i j hi hj e hne).elim
   refine foldFlat_ok (Wn:Int) (Hn:Int) (some ⟨b,off,none⟩) c zs.length ca cc L.length (stS L (fun _=>idM) (hOf [0] fun _=>0)).length zs ks (fun _=>idM) (stS L (fun _=>idM) (hOf [0] fun _=>0)) w CS (fun V a' b' ca' cb' hV r1 r2 hf=>?_) hMay (fun V hV=>?_) (fun V a1 b1 a2 b2 t1 t2 ca1 cb1 g1 c1 u1 ca2 cb2 g2 c2 u2 ⟨x1,x2,x3,x4⟩ ⟨y1,y2,y3,y4⟩=>?_)
   ·refine (flat_ok (Wn:Int) (Hn:Int) a' b' zs.length ca' cb' L.length zs ks (fun _=>idM) (stS L (fun _=>idM) (hOf [0] fun _=>0)) V (fun V2 g hV2 r3=>(LA V2 a' b' (some ⟨g,0,none⟩) ca' cb' 1 (bl_via hV hV2) (r1.kept hV2) (r2.kept hV2) hf r3).mono fun e w' h=>?_)).mono fun e w' h=>?_
    ·rcases h with ⟨M,part,hc9,hp9,hb9,h⟩ | ⟨hno,_⟩
     ·have e1:=flat_parts hJ hnd hp9
      obtain ⟨i,hi,ei⟩:=topP_at (part:=part) h0
      have e2:=e1 i hi
      rcases h with ⟨h,_⟩ | ⟨_,h,_⟩ | ⟨_,_,v,he,hST⟩
      ·exact absurd (by simp;omega) h
      ·exact absurd (by simp) h
      ·exact ⟨v,he,laid_state (cons_one hJ hnd hc9 (flat_cons ks L)) e1 hd hST⟩
     ·exact absurd ⟨_,flat_cons ks L⟩ hno
    ·obtain ⟨v,he,a9,ca9,b9,cb9,g9,c9,t9,u9,hv,r1,r2,⟨r3,_⟩,r4,hb⟩:=h
     cases hv
     exact ⟨a9,ca9,b9,cb9,g9,c9,t9,u9,he,r1.row,r2.row,r3,r4.row,hb⟩
   ·refine (flatOf_any Wn Hn b off ca zs.length 0 cc L.length c zs ks L V (fun V2 hV2=>LT V2 (bl_via hV hV2)) (fun V2 hV2=>LO V2 (bl_via hV hV2)) rfl h0 hlen hbd hnd).mono fun e w' h=>?_
    obtain ⟨a9,ca9,b9,cb9,g9,c9,t9,u9,he,r1,r2,⟨r3,_⟩,r4,hb⟩:=h
    have e5:trS L (hpN (mvP L (fun _=>idM)) (hvs ((List.range L.length).map fun _=>0)) L.length)=stS L (fun _=>idM) (hOf [0] fun _=>0):=by
     unfold stS
     rw [hpN_same (h':=hOf [0] fun _=>0) (fun i j hi hj e1 e2 _=>flat_dis hnd hkd i j hi hj e1 e2) (fun j hj=>by rw [hvs_range _ hj];rfl)]
    rw [e5] at he r4
    exact ⟨a9,ca9,b9,cb9,g9,c9,t9,u9,he,r1.row,r2.row,r3,r4.row,hb⟩
   ·exact sameState_yes (Wn:Int) (Hn:Int) a1 a2 b1 b2 ca1 ca2 cb1 cb2 0 g1 g2 c1 c2 L.length u1 u2 t1 t2 zs ks (fun _=>idM) (stS L (fun _=>idM) (hOf [0] fun _=>0)) V x1 y1 x2 y2 hn h1 h2 x3 y3 (by omega) x4 y4 (Nat.le_trans (stS_len _ _ _) (by omega)) (fun s hs9=>Nat.le_trans (stS_lens _ _ _ s hs9) (by omega))
  ·refine foldFlat_kind (Wn:Int) (Hn:Int) (some ⟨b,off,none⟩) c zs.length ca n cc zs ks w (by omega) CS (fun V a' b' ca' cb' hV r1 r2 _=>?_) hMay
   refine flat_kind (Wn:Int) (Hn:Int) a' b' zs.length ca' n cb' V (by omega) (fun V2 hV2=>may49 (Wn:Int) (Hn:Int) a' b' zs.length ca' n cb' V2 true (fun V3 hV3=>?_))
   obtain ⟨ba,oa,rfl,_⟩:=r1 0 hz0
   exact (lay_yes Wn Hn ba oa ca' n cb' b' zs ks V3 (r1.kept (bl_via hV2 hV3)) hW hH hl hm (r2.kept (bl_via hV2 hV3)) hn h2 (hs0.kept (bl_via hV (bl_via hV2 hV3))) hJ hC).mono fun e w' ⟨ad,cc9,base,ra,rk,he,hpk⟩=>⟨ad,_,cc9,some ra,some rk,he,hpk.2.2.2.2⟩
end Go.Proofs.YtgpjaecgkkgehaaGreatDoor
