package bracket

import "testing"

// P14.2: of n steps at most Looks(n) are asked, wherever the number lies, and somewhere just so many; none is asked twice, and none that is not there.
func TestHalveAsks(t *testing.T) {
	for n := range 300 {
		most := 0
		for want := range n + 1 {
			asked := make([]int, n)
			count := 0
			got := halve(n, func(i int) bool {
				asked[i]++
				count++
				return i < want
			})
			if got != want {
				t.Fatalf("%d of %d steps are reached, not %d", got, n, want)
			}
			for i, times := range asked {
				if times > 1 {
					t.Fatalf("step %d of %d is asked %d times", i, n, times)
				}
			}
			most = max(most, count)
		}
		if most != Looks(n) {
			t.Fatalf("of %d steps %d are asked, Looks says %d", n, most, Looks(n))
		}
	}
}

// P14.2: behind each step that is asked at most half of what was left is left.
func TestHalveHalves(t *testing.T) {
	for n := range 300 {
		for want := range n + 1 {
			low, high := 0, n
			halve(n, func(i int) bool {
				left := high - low
				if i < low || i >= high {
					t.Fatalf("of %d steps %d is asked, which is known", n, i)
				}
				if i < want {
					low = i + 1
				} else {
					high = i
				}
				if high-low > left/2 {
					t.Fatalf("of %d steps %d are left of %d", n, high-low, left)
				}
				return i < want
			})
		}
	}
}
