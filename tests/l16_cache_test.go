package tests

import (
	"fmt"
	"math"
	"math/rand/v2"
	"slices"
	"testing"

	"loop.example/g00809/impl"
)

func tileAt(level, x, y int) impl.Tile {
	return impl.Tile{Level: level, X: x, Y: y}
}

func cacheOf(room, loads int, tiles ...impl.Tile) impl.Cache {
	return impl.Cache{Room: room, Tiles: tiles, Loads: loads}
}

// distinctTiles lists tiles of a texture with Log 4, and at the end ones that no texture has, in no order of their fields.
func distinctTiles() []impl.Tile {
	return []impl.Tile{
		tileAt(0, 3, 5), tileAt(0, 5, 3), tileAt(1, 0, 0), tileAt(0, 0, 0), tileAt(4, 0, 0), tileAt(0, 7, 7), tileAt(2, 1, 0), tileAt(0, 1, 0), tileAt(0, 0, 1), tileAt(3, 0, 0),
		tileAt(0, 1, 1), tileAt(-1, 0, 0), tileAt(0, math.MaxInt, math.MinInt), tileAt(5, -1, -1), tileAt(math.MinInt, 1<<32, 0), tileAt(1<<32, 0, 0),
	}
}

// tilesLike lists tiles that differ from a tile in one field only.
func tilesLike(x impl.Tile) []impl.Tile {
	return []impl.Tile{
		tileAt(x.Level+1, x.X, x.Y), tileAt(x.Level-1, x.X, x.Y), tileAt(x.Level, x.X+1, x.Y), tileAt(x.Level, x.X-1, x.Y), tileAt(x.Level, x.X, x.Y+1), tileAt(x.Level, x.X, x.Y-1),
		tileAt(x.Level+1<<32, x.X, x.Y), tileAt(x.Level, x.X+1<<32, x.Y), tileAt(x.Level, x.X, x.Y+1<<32),
	}
}

// validCaches lists caches with every Room and every number of tiles, in two orders, and with the least and the greatest Loads.
func validCaches() []impl.Cache {
	var l []impl.Cache
	for room := 1; room <= 12; room++ {
		for n := 0; n <= room; n++ {
			tiles := distinctTiles()[:n:n]
			backward := slices.Clone(tiles)
			slices.Reverse(backward)
			for _, loads := range []int{n, n + 1, 1000, 999999996, 999999999, 1000000000} {
				l = append(l, cacheOf(room, loads, slices.Clone(tiles)...), cacheOf(room, loads, backward...))
			}
		}
	}
	return l
}

// fewCaches lists some valid caches: empty ones, ones with room left and full ones.
func fewCaches() []impl.Cache {
	l := distinctTiles()
	return []impl.Cache{
		cacheOf(1, 0), cacheOf(2, 7), cacheOf(4, 0, []impl.Tile{}...), cacheOf(12, 1000000000), cacheOf(1, 1, l[0]), cacheOf(1, 1, l[3]), cacheOf(2, 2, l[0], l[3]), cacheOf(2, 9, l[3], l[0]), cacheOf(3, 3, l[3], l[7], l[8]), cacheOf(3, 5, l[10], l[8], l[7]),
		cacheOf(4, 4, l[3], l[7], l[8], l[10]), cacheOf(4, 999999998, l[10], l[8], l[7], l[3]), cacheOf(5, 1000000000, l[0], l[1], l[2], l[3], l[4]), cacheOf(12, 12, l[:12]...), cacheOf(12, 999999999, l[4:16]...), cacheOf(12, 500, l[2:9]...),
	}
}

// invalidCaches lists caches with one fault, but for the zero value, which has no room.
func invalidCaches() []impl.Cache {
	l := []impl.Cache{{}, {Tiles: []impl.Tile{}}, {Loads: 1}}
	all := distinctTiles()
	for _, room := range []int{0, -1, -12, 13, 14, 256 + 1, 1<<32 + 1, 1<<32 + 12, math.MinInt, math.MinInt + 1, math.MaxInt - 1, math.MaxInt} {
		l = append(l, cacheOf(room, 0), cacheOf(room, 1, all[0]), cacheOf(room, 100, all[:12]...), cacheOf(room, 100, all[:13]...))
	}
	for room := 1; room <= 12; room++ {
		l = append(l, cacheOf(room, 100, all[:room+1]...), cacheOf(room, 100, all[:room+2]...), cacheOf(room, 0, all[:room+1]...))
		for n := 0; n <= room; n++ {
			for _, loads := range []int{n - 1, n - 2, -1, -n, -1000000000, 1000000001, 1 << 32, 1<<32 + 100, math.MinInt, math.MinInt + 1, math.MaxInt} {
				if loads < n || loads > 1000000000 {
					l = append(l, cacheOf(room, loads, all[:n:n]...))
				}
			}
		}
	}
	for i := range 12 {
		for j := range i {
			tiles := slices.Clone(all[:12])
			tiles[i] = tiles[j]
			l = append(l, cacheOf(12, 12, tiles...), cacheOf(i+1, 1000000000, slices.Clone(tiles[:i+1])...))
		}
	}
	return append(l, cacheOf(2, 2, slices.Repeat(all[3:4], 2)...), cacheOf(1, 2, slices.Repeat(all[3:4], 2)...), cacheOf(12, 2000, slices.Repeat(all, 1<<12)...))
}

func cacheCopy(c impl.Cache) impl.Cache {
	return impl.Cache{Room: c.Room, Tiles: slices.Clone(c.Tiles), Loads: c.Loads}
}

func equalCaches(a, b impl.Cache) bool {
	return a.Room == b.Room && a.Loads == b.Loads && slices.Equal(a.Tiles, b.Tiles)
}

func wantValidCache(c impl.Cache) bool {
	if c.Room < 1 || c.Room > 12 || len(c.Tiles) > c.Room || c.Loads < len(c.Tiles) || c.Loads > 1000000000 {
		return false
	}
	for i, x := range c.Tiles {
		for _, y := range c.Tiles[:i] {
			if x == y {
				return false
			}
		}
	}
	return true
}

// wantTile looks the column and the row of a tile up in a list.
func wantTile(t impl.Texture, x, y, level int) impl.Tile {
	if !wantValidTexture(t) || level < 0 || level > t.Log {
		return impl.Tile{}
	}
	side := []int{1, 2, 4, 8, 16}[t.Log-level]
	half := func(n int) int {
		n %= side
		if n < 0 {
			n += side
		}
		return []int{0, 0, 1, 1, 2, 2, 3, 3, 4, 4, 5, 5, 6, 6, 7, 7}[n]
	}
	return tileAt(level, half(x), half(y))
}

// wantTilesFor follows the document: the places of Lookup, and the tiles of the texels there.
func wantTilesFor(t impl.Texture, u, v, level int) []impl.Tile {
	if !wantValidTexture(t) {
		return nil
	}
	level = within(level, 0, t.Log)
	place := func(position int) int {
		s := within(position, -1000000, 1000000)*[]int{1, 2, 4, 8, 16}[t.Log-level] - 128
		return int(math.Floor(float64(s) / 256))
	}
	x, y := place(u), place(v)
	var l []impl.Tile
	for _, next := range []impl.Tile{wantTile(t, x, y, level), wantTile(t, x+1, y, level), wantTile(t, x, y+1, level), wantTile(t, x+1, y+1, level)} {
		if !slices.Contains(l, next) {
			l = append(l, next)
		}
	}
	return l
}

// wantUse keeps a list of tiles in the order of their use.
func wantUse(c impl.Cache, tile impl.Tile) impl.Cache {
	c = cacheCopy(c)
	if !wantValidCache(c) {
		return c
	}
	if at := slices.Index(c.Tiles, tile); at >= 0 {
		c.Tiles = append(slices.Delete(c.Tiles, at, at+1), tile)
		return c
	}
	c.Tiles = append(c.Tiles, tile)
	c.Loads++
	if len(c.Tiles) > c.Room {
		c.Tiles = c.Tiles[1:]
	}
	return c
}

func wantCached(t impl.Texture, c impl.Cache, u, v, level int) (int, impl.Cache) {
	if !wantValidTexture(t) || !wantValidCache(c) {
		return 0, c
	}
	for _, tile := range wantTilesFor(t, u, v, level) {
		c = wantUse(c, tile)
	}
	m, _ := wantMip(t, within(level, 0, t.Log))
	return wantLookup(m, u, v), c
}

func checkTile(t *testing.T, x impl.Texture, column, row, level int) {
	t.Helper()
	if got, want := impl.TileOf(x, column, row, level), wantTile(x, column, row, level); got != want {
		t.Fatalf("TileOf(%v, %d, %d, %d) = %v, not %v", x, column, row, level, got, want)
	}
}

func checkTilesFor(t *testing.T, x impl.Texture, u, v, level int) {
	t.Helper()
	if got, want := impl.TilesFor(x, u, v, level), wantTilesFor(x, u, v, level); !slices.Equal(got, want) {
		t.Fatalf("TilesFor(%v, %d, %d, %d) = %v, not %v", x, u, v, level, got, want)
	}
}

func checkUse(t *testing.T, c impl.Cache, tile impl.Tile) impl.Cache {
	t.Helper()
	got, want := impl.UseTile(c, tile), wantUse(c, tile)
	if !equalCaches(got, want) {
		t.Fatalf("UseTile(%v, %v) = %v, not %v", c, tile, got, want)
	}
	return got
}

func checkCached(t *testing.T, x impl.Texture, c impl.Cache, u, v, level int) impl.Cache {
	t.Helper()
	value, got := impl.CachedLookup(x, c, u, v, level)
	wantValue, want := wantCached(x, c, u, v, level)
	if value != wantValue || !equalCaches(got, want) {
		t.Fatalf("CachedLookup(%v, %v, %d, %d, %d) = %d, %v, not %d, %v", x, c, u, v, level, value, got, wantValue, want)
	}
	return got
}

// cachePlaces lists positions at which the texels of a lookup lie in one, two and four tiles, and around the edges of the texture.
func cachePlaces() []int {
	return []int{0, 7, 8, 15, 16, 23, 24, 31, 32, 63, 64, 95, 96, 127, 128, 159, 160, 191, 192, 223, 224, 239, 240, 247, 248, 255, 256, 264, 320, -1, -8, -32, -33, -96, -256, 1000000, -1000000, 1000001, math.MinInt, math.MaxInt}
}

// mixedTextures lists two textures of each Log.
func mixedTextures() []impl.Texture {
	l := []impl.Texture{documentTexture()}
	for log := range texelCounts() {
		l = append(l, texturesOf(log)[9], texturesOf(log)[6])
	}
	return l
}

// lookupPlace is an argument list of a lookup, without its texture.
type lookupPlace struct {
	u, v, level int
}

// walk lists lookups that come back to their places now and then.
func walk(r *rand.Rand, count int) []lookupPlace {
	p := lookupPlace{}
	var l []lookupPlace
	for range count {
		switch r.IntN(5) {
		case 0:
			p.level = r.IntN(7) - 1
		case 1:
			p = lookupPlace{r.IntN(600) - 200, r.IntN(600) - 200, 0}
		default:
			p.u, p.v = p.u+r.IntN(41)-20, p.v+r.IntN(41)-20
		}
		l = append(l, p)
		if r.IntN(3) == 0 {
			l = append(l, l[r.IntN(len(l))])
		}
	}
	return l
}

func TestP7LookupDoesNotDependOnTheCache(t *testing.T) {
	caches := append(validCaches(), fewCaches()...)
	for k, x := range validTextures() {
		for i, u := range cachePlaces() {
			v, level := 3*u+k, i%7-1
			want := impl.Lookup(x, u, v, level)
			for j := range 12 {
				c := caches[(37*k+11*i+5*j)%len(caches)]
				if got, _ := impl.CachedLookup(x, c, u, v, level); got != want {
					t.Fatalf("CachedLookup(%v, %v, %d, %d, %d) = %d, but Lookup is %d", x, c, u, v, level, got, want)
				}
			}
		}
	}
}

func TestP7LookupDoesNotDependOnEarlierLookups(t *testing.T) {
	r := rand.New(rand.NewPCG(16, 7))
	for _, x := range mixedTextures() {
		places := walk(r, 60)
		for _, room := range []int{1, 2, 3, 4, 7, 12} {
			c := impl.NewCache(room)
			for _, p := range places {
				var got int
				got, c = impl.CachedLookup(x, c, p.u, p.v, p.level)
				if want := impl.Lookup(x, p.u, p.v, p.level); got != want {
					t.Fatalf("CachedLookup(%v, %d, %d, %d) = %d with the room %d, but Lookup is %d", x, p.u, p.v, p.level, got, room, want)
				}
				if !impl.IsValidCache(c) || c.Room != room {
					t.Fatalf("the cache with the room %d becomes %v", room, c)
				}
			}
		}
	}
}

func TestP7RepeatedLookupLoadsNothing(t *testing.T) {
	caches := slices.DeleteFunc(validCaches(), func(c impl.Cache) bool { return c.Room < 4 || c.Loads > 999999996 })
	for k, x := range validTextures() {
		for i, u := range cachePlaces() {
			for j, v := range []int{u, 32, 96, 224} {
				c, level := caches[(41*k+7*i+j)%len(caches)], (i+j)%7-1
				value, first := impl.CachedLookup(x, c, u, v, level)
				again, second := impl.CachedLookup(x, first, u, v, level)
				if again != value || second.Loads != first.Loads || !impl.SameCache(first, second) {
					t.Fatalf("CachedLookup(%v, %v, %d, %d, %d) is %d, %v and then %d, %v", x, c, u, v, level, value, first, again, second)
				}
			}
		}
	}
}

// The tiles of a lookup that a cache has already are not loaded, the others are loaded once each.
func TestP7LookupLoadsWhatIsMissing(t *testing.T) {
	for _, x := range mixedTextures() {
		for i, u := range cachePlaces() {
			for _, v := range []int{u, 32, 96, 224} {
				level := i%7 - 1
				tiles := impl.TilesFor(x, u, v, level)
				for choice := range 1 << len(tiles) {
					c := cacheOf(8, 50, tileAt(9, 9, 9), tileAt(9, 9, 8))
					for k, tile := range tiles {
						if choice>>k&1 == 1 {
							c.Tiles = slices.Insert(c.Tiles, k%2, tile)
						}
					}
					_, got := impl.CachedLookup(x, c, u, v, level)
					if got.Loads != 50+len(tiles)+2-len(c.Tiles) {
						t.Fatalf("CachedLookup(%v, %v, %d, %d, %d) has the cache %v", x, c, u, v, level, got)
					}
				}
			}
		}
	}
}

// A greater cache holds all that a smaller one does, and so never loads more.
func TestP7MoreRoomLoadsNoMore(t *testing.T) {
	r := rand.New(rand.NewPCG(16, 1))
	for _, x := range mixedTextures() {
		places := walk(r, 60)
		var smaller impl.Cache
		for room := 1; room <= 12; room++ {
			c := impl.NewCache(room)
			for _, p := range places {
				_, c = impl.CachedLookup(x, c, p.u, p.v, p.level)
			}
			if room > 1 && (c.Loads > smaller.Loads || !slices.Equal(c.Tiles[len(c.Tiles)-len(smaller.Tiles):], smaller.Tiles)) {
				t.Fatalf("lookups in %v leave %v with the room %d, but %v with less", x, c, room, smaller)
			}
			smaller = c
		}
	}
}

// outsideTiles has other texels than x wherever a texel is in none of the tiles of the mip level.
func outsideTiles(x impl.Texture, tiles []impl.Tile, level int, r *rand.Rand) impl.Texture {
	block := []int{1, 2, 4, 8, 16}[level]
	return textureWith(x.Log, func(column, row int) int {
		if slices.Contains(tiles, impl.TileOf(x, column/block, row/block, level)) {
			return wantTexel(x, column, row)
		}
		return r.IntN(257)
	})
}

func TestP7LookupReadsOnlyItsTiles(t *testing.T) {
	r := rand.New(rand.NewPCG(16, 2))
	for _, x := range mixedTextures() {
		for level := range x.Log + 1 {
			for _, u := range cachePlaces() {
				for _, v := range []int{u, 32, 96, 224, 0} {
					y := outsideTiles(x, impl.TilesFor(x, u, v, level), level, r)
					if got, want := impl.Lookup(y, u, v, level), impl.Lookup(x, u, v, level); got != want {
						t.Fatalf("Lookup(%v, %d, %d, %d) = %d, and %d in other tiles", x, u, v, level, want, got)
					}
				}
			}
		}
	}
}

// Between the centers of four texels, each tile of the lookup has a part in its value.
func TestP7LookupReadsAllItsTiles(t *testing.T) {
	for log := range texelCounts() {
		for level := range log + 1 {
			side := []int{1, 2, 4, 8, 16}[log-level]
			block := []int{1, 2, 4, 8, 16}[level]
			for j := range side {
				for i := range side {
					u, v := 256/side*i, 256/side*j
					dark := textureWith(log, func(x, y int) int { return 0 })
					for _, tile := range impl.TilesFor(dark, u, v, level) {
						x := textureWith(log, func(x, y int) int {
							if impl.TileOf(dark, x/block, y/block, level) == tile {
								return 256
							}
							return 0
						})
						if got := impl.Lookup(x, u, v, level); got < 64 {
							t.Fatalf("Lookup(%v, %d, %d, %d) = %d, but the tile %v is bright", x, u, v, level, got, tile)
						}
					}
				}
			}
		}
	}
}

func TestP15CacheConstants(t *testing.T) {
	if impl.MaxRoom != 12 || impl.TileSide != 2 {
		t.Errorf("MaxRoom is %d, TileSide is %d", impl.MaxRoom, impl.TileSide)
	}
}

func TestP15NewCache(t *testing.T) {
	rooms := append(extremeInts(), 1<<32, 1<<32+1, 1<<32+5, -1<<32, -1<<32+5, 255, 256, 260)
	for n := -20; n <= 40; n++ {
		rooms = append(rooms, n)
	}
	for _, room := range rooms {
		c := impl.NewCache(room)
		if c.Room != within(room, 1, 12) || len(c.Tiles) != 0 || c.Loads != 0 || !impl.IsValidCache(c) {
			t.Errorf("NewCache(%d) = %v", room, c)
		}
	}
	for room, want := range map[int]int{1: 1, 2: 2, 11: 11, 12: 12, 13: 12, 0: 1, -1: 1, math.MinInt: 1, math.MaxInt: 12} {
		if got := impl.NewCache(room).Room; got != want {
			t.Errorf("NewCache(%d) has the room %d, not %d", room, got, want)
		}
	}
}

func TestP15IsValidCache(t *testing.T) {
	for _, c := range append(validCaches(), fewCaches()...) {
		if !impl.IsValidCache(c) {
			t.Fatalf("%v is not valid", c)
		}
	}
	for _, c := range invalidCaches() {
		if impl.IsValidCache(c) {
			t.Fatalf("%v is valid", c)
		}
	}
}

func TestP15IsValidCacheOfRooms(t *testing.T) {
	for _, room := range append(extremeInts(), 11, 12, 13) {
		for _, loads := range []int{0, 1, 1000000000} {
			if got := impl.IsValidCache(cacheOf(room, loads)); got != (room >= 1 && room <= 12) {
				t.Errorf("IsValidCache({%d [] %d}) = %v", room, loads, got)
			}
		}
	}
}

func TestP15IsValidCacheOfLoads(t *testing.T) {
	for n := range 13 {
		for _, loads := range append(extremeInts(), n-2, n-1, n, n+1, 12, 13) {
			c := cacheOf(12, loads, distinctTiles()[:n]...)
			if got := impl.IsValidCache(c); got != (loads >= n && loads <= 1000000000) {
				t.Errorf("IsValidCache(%v) = %v", c, got)
			}
		}
	}
}

// Tiles that differ in one field only are distinct, wherever they are.
func TestP15IsValidCacheOfSimilarTiles(t *testing.T) {
	for _, x := range distinctTiles() {
		for _, y := range tilesLike(x) {
			others := []impl.Tile{tileAt(70, 71, 72), tileAt(71, 70, 72), tileAt(72, 71, 70)}
			for k := range len(others) + 1 {
				similar := append(slices.Insert(slices.Clone(others), k, x), y)
				equal := append(slices.Insert(slices.Clone(others), k, y), y)
				if !impl.IsValidCache(cacheOf(5, 5, similar...)) || impl.IsValidCache(cacheOf(5, 5, equal...)) {
					t.Fatalf("IsValidCache of %v and %v at %d", x, y, k)
				}
			}
		}
	}
}

func TestP15TileOfEveryTexel(t *testing.T) {
	for _, x := range validTextures() {
		for level := range x.Log + 1 {
			side := []int{1, 2, 4, 8, 16}[x.Log-level]
			for row := -side; row < 2*side; row++ {
				for column := -side; column < 2*side; column++ {
					checkTile(t, x, column, row, level)
				}
			}
		}
	}
}

func TestP15TileOfExamples(t *testing.T) {
	four, sixteen := texturesOf(2)[9], texturesOf(4)[9]
	for _, c := range []struct {
		x                  impl.Texture
		column, row, level int
		want               impl.Tile
	}{
		{documentTexture(), 3, 0, 0, tileAt(0, 0, 0)}, {documentTexture(), 1, 1, 1, tileAt(1, 0, 0)}, {documentTexture(), 1, 1, 2, tileAt(0, 0, 0)}, {documentTexture(), 1, 1, -1, tileAt(0, 0, 0)}, {texture(0, 9), 5, -5, 0, tileAt(0, 0, 0)},
		{four, 0, 0, 0, tileAt(0, 0, 0)}, {four, 1, 2, 0, tileAt(0, 0, 1)}, {four, 2, 1, 0, tileAt(0, 1, 0)}, {four, 3, 3, 0, tileAt(0, 1, 1)}, {four, 4, 3, 0, tileAt(0, 0, 1)}, {four, -1, 5, 0, tileAt(0, 1, 0)}, {four, -3, -4, 0, tileAt(0, 0, 0)}, {four, 3, 3, 1, tileAt(1, 0, 0)}, {four, 3, 3, 2, tileAt(2, 0, 0)}, {four, 3, 3, 3, tileAt(0, 0, 0)},
		{sixteen, 15, 0, 0, tileAt(0, 7, 0)}, {sixteen, 16, 13, 0, tileAt(0, 0, 6)}, {sixteen, -1, -16, 0, tileAt(0, 7, 0)}, {sixteen, 9, 6, 1, tileAt(1, 0, 3)}, {sixteen, -1, 2, 2, tileAt(2, 1, 1)}, {sixteen, -1, 2, 3, tileAt(3, 0, 0)}, {sixteen, -1, 2, 4, tileAt(4, 0, 0)}, {sixteen, 15, 15, 5, tileAt(0, 0, 0)},
		{sixteen, math.MinInt, math.MaxInt, 0, tileAt(0, 0, 7)}, {sixteen, math.MaxInt, math.MinInt + 3, 1, tileAt(1, 3, 1)}, {impl.Texture{}, 3, 3, 0, tileAt(0, 0, 0)},
	} {
		if got := impl.TileOf(c.x, c.column, c.row, c.level); got != c.want {
			t.Errorf("TileOf(%v, %d, %d, %d) = %v, not %v", c.x, c.column, c.row, c.level, got, c.want)
		}
	}
}

func TestP15TileOfPlacesBeyondTheTexture(t *testing.T) {
	places := append(extremeInts(), -17, -16, -15, 15, 16, 17, 31, 32, 1<<32+3, -1<<32-3, math.MaxInt-15, math.MinInt+15)
	for _, x := range mixedTextures() {
		for level := -1; level <= 5; level++ {
			for _, column := range places {
				for _, row := range places {
					checkTile(t, x, column, row, level)
				}
			}
		}
	}
}

func TestP15TileOfLevels(t *testing.T) {
	for _, x := range validTextures() {
		for _, level := range append(textureLevels(), x.Log, x.Log+1, x.Log-1, -x.Log) {
			for _, place := range []int{0, 1, 2, 15, -1, math.MaxInt} {
				checkTile(t, x, place, 3-place, level)
			}
		}
	}
}

func TestP15TileOfTexturesThatAreNotValid(t *testing.T) {
	for _, x := range invalidTextures() {
		for _, level := range []int{0, 1, 2, 4, -1, 5, x.Log, x.Log - 1, math.MinInt, math.MaxInt} {
			for _, place := range []int{0, 2, 3, -1, math.MinInt, math.MaxInt} {
				if got := impl.TileOf(x, place, 3, level); got != (impl.Tile{}) {
					t.Fatalf("TileOf(%v, %d, 3, %d) = %v", x, place, level, got)
				}
			}
		}
	}
}

func TestP15TilesForExamples(t *testing.T) {
	four, sixteen := texturesOf(2)[9], texturesOf(4)[9]
	a, b, c, d := tileAt(0, 0, 0), tileAt(0, 1, 0), tileAt(0, 0, 1), tileAt(0, 1, 1)
	for _, e := range []struct {
		x           impl.Texture
		u, v, level int
		want        []impl.Tile
	}{
		// The centers of the four columns and rows are 32, 96, 160 and 224.
		{four, 32, 32, 0, []impl.Tile{a}}, {four, 95, 95, 0, []impl.Tile{a}}, {four, 160, 32, 0, []impl.Tile{b}}, {four, 223, 95, 0, []impl.Tile{b}}, {four, 32, 160, 0, []impl.Tile{c}}, {four, 160, 160, 0, []impl.Tile{d}}, {four, 223, 223, 0, []impl.Tile{d}},
		{four, 96, 32, 0, []impl.Tile{a, b}}, {four, 159, 95, 0, []impl.Tile{a, b}}, {four, 32, 96, 0, []impl.Tile{a, c}}, {four, 95, 159, 0, []impl.Tile{a, c}}, {four, 96, 160, 0, []impl.Tile{c, d}}, {four, 160, 96, 0, []impl.Tile{b, d}}, {four, 96, 96, 0, []impl.Tile{a, b, c, d}}, {four, 159, 159, 0, []impl.Tile{a, b, c, d}},
		{four, 224, 32, 0, []impl.Tile{b, a}}, {four, 31, 32, 0, []impl.Tile{b, a}}, {four, 0, 95, 0, []impl.Tile{b, a}}, {four, -32, 95, 0, []impl.Tile{b, a}}, {four, -33, 95, 0, []impl.Tile{b}}, {four, 287, 32, 0, []impl.Tile{b, a}}, {four, 288, 32, 0, []impl.Tile{a}}, {four, 32, 224, 0, []impl.Tile{c, a}}, {four, 32, 0, 0, []impl.Tile{c, a}},
		{four, 0, 0, 0, []impl.Tile{d, c, b, a}}, {four, 224, 224, 0, []impl.Tile{d, c, b, a}}, {four, 256, 255, 0, []impl.Tile{d, c, b, a}}, {four, 0, 96, 0, []impl.Tile{b, a, d, c}}, {four, 96, 0, 0, []impl.Tile{c, d, a, b}},
		{four, 32, 32, -1, []impl.Tile{a}}, {four, 96, 96, math.MinInt, []impl.Tile{a, b, c, d}}, {four, 96, 96, 1, []impl.Tile{tileAt(1, 0, 0)}}, {four, 0, 0, 2, []impl.Tile{tileAt(2, 0, 0)}}, {four, 0, 0, 3, []impl.Tile{tileAt(2, 0, 0)}}, {four, 96, 0, math.MaxInt, []impl.Tile{tileAt(2, 0, 0)}},
		{four, 1000000, 32, 0, []impl.Tile{a}}, {four, 1000096, 32, 0, []impl.Tile{a}}, {four, math.MaxInt, 32, 0, []impl.Tile{a}}, {four, -1000000, 32, 0, []impl.Tile{b}}, {four, -1000096, 32, 0, []impl.Tile{b}}, {four, math.MinInt, math.MaxInt, 0, []impl.Tile{b}}, {four, math.MaxInt, math.MinInt, 0, []impl.Tile{c}},
		{sixteen, 8, 24, 0, []impl.Tile{a, c}}, {sixteen, 248, 120, 0, []impl.Tile{tileAt(0, 7, 3), tileAt(0, 0, 3), tileAt(0, 7, 4), tileAt(0, 0, 4)}}, {sixteen, 112, 48, 1, []impl.Tile{tileAt(1, 1, 0), tileAt(1, 2, 0), tileAt(1, 1, 1), tileAt(1, 2, 1)}}, {sixteen, 0, 40, 2, []impl.Tile{tileAt(2, 1, 0), tileAt(2, 0, 0)}}, {sixteen, 0, 0, 3, []impl.Tile{tileAt(3, 0, 0)}}, {sixteen, 0, 0, 9, []impl.Tile{tileAt(4, 0, 0)}},
		{documentTexture(), 0, 0, 0, []impl.Tile{a}}, {documentTexture(), 128, 200, 1, []impl.Tile{tileAt(1, 0, 0)}}, {texture(0, 5), 128, -999, 7, []impl.Tile{a}}, {impl.Texture{}, 0, 0, 0, nil}, {texture(1, 0, 0, 0, 257), 0, 0, 0, nil},
	} {
		if got := impl.TilesFor(e.x, e.u, e.v, e.level); !slices.Equal(got, e.want) {
			t.Errorf("TilesFor(%v, %d, %d, %d) = %v, not %v", e.x, e.u, e.v, e.level, got, e.want)
		}
	}
}

func TestP15TilesForAllPlaces(t *testing.T) {
	for _, x := range mixedTextures() {
		for level := range x.Log + 1 {
			for _, u := range texturePlaces() {
				for _, v := range texturePlaces() {
					checkTilesFor(t, x, u, v, level)
				}
			}
		}
	}
}

func TestP15TilesForAdjacentPositions(t *testing.T) {
	for log := range texelCounts() {
		x := texturesOf(log)[9]
		for level := range log + 1 {
			for u := -300; u <= 600; u++ {
				for _, v := range []int{7 * u, 64, 256 - u} {
					checkTilesFor(t, x, u, v, level)
				}
			}
		}
	}
}

func TestP15TilesForLimitsItsArguments(t *testing.T) {
	few := []int{math.MinInt, -1000001, -1000000, -1, 0, 96, 999999, 1000000, 1000001, math.MaxInt}
	for _, x := range mixedTextures() {
		for _, level := range append(textureLevels(), x.Log, x.Log+1, x.Log-1) {
			for _, u := range few {
				for _, v := range few {
					checkTilesFor(t, x, u, v, level)
				}
			}
		}
	}
}

func TestP15TilesForDoNotDependOnTheTexels(t *testing.T) {
	for log := range texelCounts() {
		for _, x := range texturesOf(log) {
			for i, u := range cachePlaces() {
				checkTilesFor(t, x, u, 96+u, i%7-1)
			}
		}
	}
}

func TestP15TilesForTexturesThatAreNotValid(t *testing.T) {
	for _, x := range invalidTextures() {
		for _, level := range []int{0, 1, 4, -1, 5, x.Log, x.Log - 1, math.MinInt, math.MaxInt} {
			for _, u := range []int{0, 96, math.MinInt, math.MaxInt} {
				if got := impl.TilesFor(x, u, 96, level); len(got) != 0 {
					t.Fatalf("TilesFor(%v, %d, 96, %d) = %v", x, u, level, got)
				}
			}
		}
	}
}

func TestP15UseTileExamples(t *testing.T) {
	a, b, c, d := tileAt(0, 5, 0), tileAt(0, 3, 0), tileAt(2, 1, 1), tileAt(0, 0, 9)
	for _, e := range []struct {
		c    impl.Cache
		tile impl.Tile
		want impl.Cache
	}{
		{cacheOf(3, 5, a, b, c), a, cacheOf(3, 5, b, c, a)}, {cacheOf(3, 5, a, b, c), b, cacheOf(3, 5, a, c, b)}, {cacheOf(3, 5, a, b, c), c, cacheOf(3, 5, a, b, c)}, {cacheOf(3, 5, a, b, c), d, cacheOf(3, 6, b, c, d)},
		{cacheOf(4, 5, a, b, c), a, cacheOf(4, 5, b, c, a)}, {cacheOf(4, 5, a, b, c), c, cacheOf(4, 5, a, b, c)}, {cacheOf(4, 5, a, b, c), d, cacheOf(4, 6, a, b, c, d)}, {cacheOf(12, 3, c, b, a), d, cacheOf(12, 4, c, b, a, d)},
		{cacheOf(1, 0), a, cacheOf(1, 1, a)}, {cacheOf(1, 1, a), a, cacheOf(1, 1, a)}, {cacheOf(1, 1, a), b, cacheOf(1, 2, b)}, {cacheOf(2, 1, a), b, cacheOf(2, 2, a, b)}, {cacheOf(2, 2, a, b), a, cacheOf(2, 2, b, a)}, {cacheOf(2, 2, a, b), c, cacheOf(2, 3, b, c)},
		{cacheOf(2, 1000000000, a, b), a, cacheOf(2, 1000000000, b, a)}, {cacheOf(2, 999999999, a, b), c, cacheOf(2, 1000000000, b, c)}, {cacheOf(2, 1000000000, a, b), c, cacheOf(2, 1000000001, b, c)}, {cacheOf(2, 1000000000), c, cacheOf(2, 1000000001, c)},
		{cacheOf(2, 1000000001, a, b), a, cacheOf(2, 1000000001, a, b)}, {cacheOf(2, 1, a, b), a, cacheOf(2, 1, a, b)}, {cacheOf(2, 1, a, b), c, cacheOf(2, 1, a, b)}, {cacheOf(2, 5, a, b, c), d, cacheOf(2, 5, a, b, c)}, {cacheOf(0, 0), d, cacheOf(0, 0)}, {cacheOf(13, 0), d, cacheOf(13, 0)}, {cacheOf(4, 5, a, b, a), b, cacheOf(4, 5, a, b, a)}, {cacheOf(4, -1), b, cacheOf(4, -1)},
	} {
		if got := impl.UseTile(e.c, e.tile); !equalCaches(got, e.want) {
			t.Errorf("UseTile(%v, %v) = %v, not %v", e.c, e.tile, got, e.want)
		}
	}
}

func TestP15UseTileOfEveryCache(t *testing.T) {
	for _, c := range append(append(validCaches(), fewCaches()...), invalidCaches()...) {
		for _, tile := range distinctTiles() {
			checkUse(t, c, tile)
		}
	}
}

// A tile that differs from one of the cache in one field only is a new one.
func TestP15UseTileOfSimilarTiles(t *testing.T) {
	for _, c := range fewCaches() {
		for _, x := range c.Tiles {
			for _, y := range tilesLike(x) {
				checkUse(t, c, y)
			}
		}
	}
}

func TestP15UseTileInEveryOrder(t *testing.T) {
	tiles := []impl.Tile{tileAt(1, 0, 0), tileAt(0, 0, 0), tileAt(0, 1, 0), tileAt(0, 0, 1)}
	for room := 1; room <= 5; room++ {
		caches := []impl.Cache{impl.NewCache(room)}
		for range 5 {
			var next []impl.Cache
			for _, c := range caches {
				for _, tile := range tiles {
					next = append(next, checkUse(t, c, tile))
				}
			}
			caches = next
		}
	}
}

// After any uses the cache has the last distinct tiles, and a use is a load if its tile is not one of those.
func TestP15UseTileKeepsTheLastTiles(t *testing.T) {
	r := rand.New(rand.NewPCG(16, 3))
	for room := 1; room <= 12; room++ {
		for kinds := 1; kinds <= 16; kinds += 3 {
			c := impl.NewCache(room)
			var used []impl.Tile
			loads := 0
			for range 150 {
				tile := distinctTiles()[r.IntN(kinds)]
				if !slices.Contains(c.Tiles, tile) {
					loads++
				}
				used = append(used, tile)
				c = checkUse(t, c, tile)
				var last []impl.Tile
				for k := len(used) - 1; k >= 0 && len(last) < room; k-- {
					if !slices.Contains(last, used[k]) {
						last = append(last, used[k])
					}
				}
				slices.Reverse(last)
				if !slices.Equal(c.Tiles, last) || c.Loads != loads || c.Room != room || !impl.IsValidCache(c) {
					t.Fatalf("after %v the cache is %v with %d loads, not %v", used, c, loads, last)
				}
			}
		}
	}
}

func TestP15UseTileOfCachesThatAreNotValid(t *testing.T) {
	for _, c := range invalidCaches() {
		for _, tile := range append(distinctTiles(), tileAt(0, 0, 0)) {
			if got := impl.UseTile(c, tile); !equalCaches(got, c) {
				t.Fatalf("UseTile(%v, %v) = %v", c, tile, got)
			}
		}
	}
}

func TestP15CachedLookupExamples(t *testing.T) {
	x := texture(2, 0, 16, 32, 48, 64, 80, 96, 112, 128, 144, 160, 176, 192, 208, 224, 240)
	a, b, c, d, half, last := tileAt(0, 0, 0), tileAt(0, 1, 0), tileAt(0, 0, 1), tileAt(0, 1, 1), tileAt(1, 0, 0), tileAt(2, 0, 0)
	for _, e := range []struct {
		c           impl.Cache
		u, v, level int
		value       int
		want        impl.Cache
	}{
		{cacheOf(1, 0), 32, 32, 0, 0, cacheOf(1, 1, a)}, {cacheOf(1, 1, a), 64, 32, 0, 8, cacheOf(1, 1, a)}, {cacheOf(1, 1, a), 192, 160, 0, 168, cacheOf(1, 2, d)},
		{cacheOf(4, 0), 128, 128, 0, 120, cacheOf(4, 4, a, b, c, d)}, {cacheOf(4, 4, a, b, c, d), 128, 128, 0, 120, cacheOf(4, 4, a, b, c, d)}, {cacheOf(12, 9, d, half, a), 128, 128, 0, 120, cacheOf(12, 11, half, a, b, c, d)}, {cacheOf(4, 9, d, half, a), 128, 128, 0, 120, cacheOf(4, 12, a, b, c, d)},
		{cacheOf(3, 0), 128, 128, 0, 120, cacheOf(3, 4, b, c, d)}, {cacheOf(3, 4, b, c, d), 128, 128, 0, 120, cacheOf(3, 8, b, c, d)}, {cacheOf(2, 0), 128, 128, 0, 120, cacheOf(2, 4, c, d)}, {cacheOf(1, 0), 128, 128, 0, 120, cacheOf(1, 4, d)},
		{cacheOf(5, 5, half, a), 256, 256, 0, 120, cacheOf(5, 8, half, d, c, b, a)}, {cacheOf(5, 5, half, a), 224, 32, 0, 48, cacheOf(5, 6, half, b, a)}, {cacheOf(5, 5, half, a), 64, 192, 1, 168, cacheOf(5, 5, a, half)}, {cacheOf(5, 5, half, a), 64, 64, 1, 40, cacheOf(5, 5, a, half)}, {cacheOf(5, 5, half, a), 7, 9, 2, 120, cacheOf(5, 6, half, a, last)}, {cacheOf(5, 5, last, a), 7, 9, math.MaxInt, 120, cacheOf(5, 5, a, last)}, {cacheOf(5, 5, half, a), 32, 32, math.MinInt, 0, cacheOf(5, 5, half, a)},
		{cacheOf(4, 999999996), 128, 128, 0, 120, cacheOf(4, 1000000000, a, b, c, d)}, {cacheOf(4, 1000000000, a, b, c, d), 128, 128, 0, 120, cacheOf(4, 1000000000, a, b, c, d)}, {cacheOf(4, 1000000000, d, c, b, a), 128, 128, 0, 120, cacheOf(4, 1000000000, a, b, c, d)},
		// The cache is no longer valid when Loads is beyond MaxNum, so that the later tiles do not change it.
		{cacheOf(4, 1000000000), 128, 128, 0, 120, cacheOf(4, 1000000001, a)}, {cacheOf(4, 999999999), 128, 128, 0, 120, cacheOf(4, 1000000001, a, b)}, {cacheOf(1, 999999998, d), 128, 128, 0, 120, cacheOf(1, 1000000001, c)},
		{cacheOf(4, 1000000001, a), 128, 128, 0, 0, cacheOf(4, 1000000001, a)}, {cacheOf(0, 0), 128, 128, 0, 0, cacheOf(0, 0)}, {cacheOf(13, 0), 128, 128, 0, 0, cacheOf(13, 0)}, {cacheOf(4, 0, a), 128, 128, 0, 0, cacheOf(4, 0, a)}, {cacheOf(1, 2, a, b), 128, 128, 0, 0, cacheOf(1, 2, a, b)}, {cacheOf(2, 2, a, a), 128, 128, 0, 0, cacheOf(2, 2, a, a)},
	} {
		if value, got := impl.CachedLookup(x, e.c, e.u, e.v, e.level); value != e.value || !equalCaches(got, e.want) {
			t.Errorf("CachedLookup(%v, %v, %d, %d, %d) = %d, %v, not %d, %v", x, e.c, e.u, e.v, e.level, value, got, e.value, e.want)
		}
	}
}

func TestP15CachedLookup(t *testing.T) {
	caches := append(fewCaches(), invalidCaches()...)
	for k, x := range mixedTextures() {
		for i, c := range caches {
			for j, u := range cachePlaces() {
				if (i+j)%5 == k%5 || i < 16 {
					checkCached(t, x, c, u, 7*u+32*k, j%7-1)
				}
			}
		}
	}
}

func TestP15CachedLookupUsesTheTilesInOrder(t *testing.T) {
	for k, x := range validTextures() {
		for i, c := range validCaches() {
			u, v, level := 32*(i%10), 32*(i/10%10), (i+k)%7-1
			want := c
			for _, tile := range impl.TilesFor(x, u, v, level) {
				want = impl.UseTile(want, tile)
			}
			if _, got := impl.CachedLookup(x, c, u, v, level); !equalCaches(got, want) {
				t.Fatalf("CachedLookup(%v, %v, %d, %d, %d) has the cache %v, not %v", x, c, u, v, level, got, want)
			}
		}
	}
}

func TestP15CachedLookupOfManyPlaces(t *testing.T) {
	r := rand.New(rand.NewPCG(16, 4))
	for _, x := range mixedTextures() {
		for room := 1; room <= 12; room += 1 + room/4 {
			c := impl.NewCache(room)
			for _, p := range walk(r, 60) {
				c = checkCached(t, x, c, p.u, p.v, p.level)
			}
		}
	}
}

// A cache may be used for several textures; a tile does not say which one it is of.
func TestP15CachedLookupOfSeveralTextures(t *testing.T) {
	all := mixedTextures()
	for _, room := range []int{1, 4, 12} {
		c := impl.NewCache(room)
		for k := range 400 {
			x := all[k*k%len(all)]
			c = checkCached(t, x, c, 13*k, 300-29*k, k%7-1)
		}
	}
}

func TestP15CachedLookupOfTexturesThatAreNotValid(t *testing.T) {
	for _, x := range invalidTextures() {
		for _, c := range append(fewCaches(), impl.Cache{}, cacheOf(1, 2, distinctTiles()[:2]...), cacheOf(13, 0)) {
			value, got := impl.CachedLookup(x, c, 96, 96, 0)
			again, later := impl.CachedLookup(x, c, math.MaxInt, math.MinInt, x.Log)
			if value != 0 || again != 0 || !equalCaches(got, c) || !equalCaches(later, c) {
				t.Fatalf("CachedLookup(%v, %v, 96, 96, 0) = %d, %v, and elsewhere %d, %v", x, c, value, got, again, later)
			}
		}
	}
}

func TestP15CachedLookupOfCachesThatAreNotValid(t *testing.T) {
	bright := texture(1, 256, 256, 256, 256)
	for _, c := range invalidCaches() {
		for _, level := range []int{0, 1, -1, 5} {
			if value, got := impl.CachedLookup(bright, c, 96, 96, level); value != 0 || !equalCaches(got, c) {
				t.Fatalf("CachedLookup(%v, %v, 96, 96, %d) = %d, %v", bright, c, level, value, got)
			}
		}
	}
}

func TestP15SameCacheOfCopies(t *testing.T) {
	for _, c := range append(append(validCaches(), fewCaches()...), invalidCaches()...) {
		if !impl.SameCache(c, c) || !impl.SameCache(c, cacheCopy(c)) || !impl.SameCache(roomyCache(c), c) {
			t.Fatalf("%v is not the same as itself", c)
		}
	}
	for _, room := range []int{0, 1, 5, -7} {
		none, empty := impl.Cache{Room: room, Loads: 3}, impl.Cache{Room: room, Tiles: []impl.Tile{}, Loads: 3}
		if !impl.SameCache(none, empty) || !impl.SameCache(empty, none) || !impl.SameCache(none, roomyCache(none)) {
			t.Errorf("%v without tiles is not the same as itself", none)
		}
	}
}

// changedCaches lists caches that differ from c in one respect.
func changedCaches(c impl.Cache) []impl.Cache {
	var l []impl.Cache
	for _, n := range []int{1, -1, 1 << 32, math.MinInt} {
		l = append(l, cacheOf(c.Room+n, c.Loads, c.Tiles...), cacheOf(c.Room, c.Loads+n, c.Tiles...))
	}
	l = append(l, cacheOf(c.Room, c.Loads, append(slices.Clone(c.Tiles), impl.Tile{})...), cacheOf(c.Room, c.Loads, slices.Insert(slices.Clone(c.Tiles), 0, tileAt(8, 8, 8))...))
	for k, tile := range c.Tiles {
		l = append(l, cacheOf(c.Room, c.Loads, slices.Delete(slices.Clone(c.Tiles), k, k+1)...))
		for _, other := range tilesLike(tile) {
			tiles := slices.Clone(c.Tiles)
			tiles[k] = other
			l = append(l, cacheOf(c.Room, c.Loads, tiles...))
		}
		for i := range k {
			tiles := slices.Clone(c.Tiles)
			tiles[k], tiles[i] = tiles[i], tiles[k]
			l = append(l, cacheOf(c.Room, c.Loads, tiles...))
		}
	}
	return l
}

func TestP15SameCacheOfChangedCaches(t *testing.T) {
	for _, c := range append(fewCaches(), impl.Cache{}, cacheOf(13, -1, distinctTiles()...), cacheOf(2, 5, tileAt(0, 1, 2), tileAt(1, 0, 2), tileAt(2, 1, 0))) {
		for _, other := range changedCaches(c) {
			if impl.SameCache(c, other) || impl.SameCache(other, c) {
				t.Fatalf("%v is the same as %v", c, other)
			}
		}
	}
}

func TestP15SameCacheOfAllPairs(t *testing.T) {
	all := append(fewCaches(), validCaches()[:200]...)
	for _, a := range all {
		for _, b := range all {
			if got, want := impl.SameCache(a, b), equalCaches(a, b); got != want {
				t.Fatalf("SameCache(%v, %v) = %v", a, b, got)
			}
		}
	}
}

// roomyCache has room behind its tiles, which is filled with tiles of its own.
func roomyCache(c impl.Cache) impl.Cache {
	tiles := append(slices.Clone(c.Tiles), slices.Repeat([]impl.Tile{tileAt(-7, -8, -9)}, 20)...)
	return impl.Cache{Room: c.Room, Tiles: tiles[:len(c.Tiles)], Loads: c.Loads}
}

// overwriteTiles destroys a list and the spare capacity behind it.
func overwriteTiles(l []impl.Tile) {
	l = l[:cap(l)]
	for k := range l {
		l[k] = tileAt(-99, -98, -97)
	}
}

// cacheResults is what the functions of the chapter return for a texture and a cache.
func cacheResults(x impl.Texture, c impl.Cache) string {
	text := fmt.Sprint(impl.NewCache(c.Room), impl.IsValidCache(c), impl.SameCache(c, c))
	for _, tile := range append(distinctTiles(), c.Tiles[:min(12, len(c.Tiles))]...) {
		text += fmt.Sprint(" ", impl.UseTile(c, tile))
	}
	for k, u := range []int{0, 32, 96, 224, -1000000} {
		value, after := impl.CachedLookup(x, c, u, 96, k-1)
		text += fmt.Sprint(" ", impl.TileOf(x, u, 3-u, k), impl.TilesFor(x, u, 32, k), value, after)
	}
	return text
}

func someCaches() []impl.Cache {
	return append(fewCaches(), impl.Cache{}, cacheOf(13, 0), cacheOf(3, 2, distinctTiles()[:3]...), cacheOf(2, 3, distinctTiles()[:3]...), cacheOf(12, 12, append(distinctTiles()[:11], distinctTiles()[4])...))
}

func TestP15CacheFunctionsChangeNothing(t *testing.T) {
	textures := append(mixedTextures(), impl.Texture{}, texture(1, 1, 2, 3), texture(1, 1, 2, 3, 300), texture(5, 1))
	for _, first := range textures {
		for _, kept := range someCaches() {
			x, c := roomyTexture(first), roomyCache(kept)
			texels, tiles := slices.Clone(x.Texels[:cap(x.Texels)]), slices.Clone(c.Tiles[:cap(c.Tiles)])
			cacheResults(x, c)
			if !slices.Equal(x.Texels[:cap(x.Texels)], texels) || !slices.Equal(c.Tiles[:cap(c.Tiles)], tiles) {
				t.Fatalf("%v and %v became %v and %v", first, kept, x.Texels[:cap(x.Texels)], c.Tiles[:cap(c.Tiles)])
			}
		}
	}
}

// The results stay the same, with those for others in between, and do not depend on what is behind the tiles.
func TestP15CacheFunctionsRepeatTheirResults(t *testing.T) {
	textures, caches := append(mixedTextures(), impl.Texture{}, texture(1, 1, 2, 3)), someCaches()
	var first []string
	for _, x := range textures {
		for _, c := range caches {
			first = append(first, cacheResults(x, c))
		}
	}
	for k := len(first) - 1; k >= 0; k-- {
		x, c := textures[k/len(caches)], caches[k%len(caches)]
		for _, again := range []impl.Cache{c, cacheCopy(c), roomyCache(c)} {
			if got := cacheResults(roomyTexture(x), again); got != first[k] {
				t.Fatalf("the results for %v and %v are %s, and later %s", x, c, first[k], got)
			}
		}
	}
}

// A result keeps its tiles when the argument and other results are overwritten, and the argument when a result is.
func TestP15CacheResultsAreNew(t *testing.T) {
	x := texturesOf(3)[9]
	results := []func(c impl.Cache) impl.Cache{
		func(c impl.Cache) impl.Cache { return impl.UseTile(c, tileAt(0, 3, 5)) },
		func(c impl.Cache) impl.Cache { return impl.UseTile(c, tileAt(0, 1, 1)) },
		func(c impl.Cache) impl.Cache { return impl.UseTile(c, tileAt(60, 61, 62)) },
		func(c impl.Cache) impl.Cache { _, after := impl.CachedLookup(x, c, 32, 32, 0); return after },
		func(c impl.Cache) impl.Cache { _, after := impl.CachedLookup(x, c, 0, 0, 0); return after },
		func(c impl.Cache) impl.Cache { _, after := impl.CachedLookup(impl.Texture{}, c, 0, 0, 0); return after },
	}
	for _, first := range append(fewCaches(), invalidCaches()...) {
		for k, result := range results {
			c := roomyCache(first)
			kept := result(c)
			want := cacheCopy(kept)
			overwriteTiles(result(c).Tiles)
			if !equalCaches(c, first) || !equalCaches(kept, want) {
				t.Fatalf("result %d for %v shares memory: it is %v, the argument %v", k, first, kept, c)
			}
			overwriteTiles(c.Tiles)
			if !equalCaches(kept, want) || !equalCaches(result(first), want) {
				t.Fatalf("result %d for %v changes with its argument: %v", k, first, kept)
			}
		}
	}
}

func TestP15ListsOfTilesAreNew(t *testing.T) {
	for _, x := range mixedTextures() {
		for i, u := range cachePlaces() {
			kept := impl.TilesFor(x, u, 96, i%7-1)
			want := slices.Clone(kept)
			overwriteTiles(impl.TilesFor(x, u, 96, i%7-1))
			overwriteTiles(impl.NewCache(4).Tiles)
			_, c := impl.CachedLookup(x, impl.NewCache(4), u, 96, i%7-1)
			overwriteTiles(c.Tiles)
			if !slices.Equal(kept, want) || !slices.Equal(impl.TilesFor(x, u, 96, i%7-1), want) || len(impl.NewCache(4).Tiles) != 0 {
				t.Fatalf("TilesFor(%v, %d, 96, %d) becomes %v", x, u, i%7-1, kept)
			}
		}
	}
}
